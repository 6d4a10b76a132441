/-
  A part of the proof.
-/
import Derived.Test.YthfemlhmnjfjiaaC6
import Derived.Laws.Append
import Derived.Deep.DeepAppendWide
/-
 The tree's take, where one side at most is there.
-/
namespace Go.Proofs.Ythfemlhmnjfjiaa
open Go.RowKit
namespace G
section
variable {D : Nat → Prop} {w : World} {t : Nat} {mb : Hd} {R : Mp} {root : Option Nat} {lk : Int}
theorem hangT2 {C : Cx} {tr : T} {p u : Option Nat} (hS : HS D w t mb R root lk) (hAp : Ap R) (hC : RepC mb.sc R root C p) (hR : Rep mb.sc R u tr) (hn : (adC C ++ tr.ad).Nodup) :
  Calls Try.prog 47 #[pt t 0, pp (top C), .int .i64 (if sideC C then 1 else 0), pp tr.p] w fun e w' => e = .returned (.tuple #[]) ∧ RS D w' t mb C tr lk (hkR R (top C) (sideC C) tr.p) (hkO root (top C) tr.p) ∧ Mk D w w' := by
 obtain ⟨n1, n2, n3⟩ := nd_pos hn
 have hx : ∀ k, tr.p = some k → top C ≠ some k := fun k e q => n3 k (top_mem q) (T.pm e)
 refine (hang_n hS (top C) tr.p (sideC C) (fun k e => hR.rt e) (fun p e => by
   cases C with
   | nil => cases e
   | cons f C => cases e; obtain ⟨h9, c9, e9⟩ := hC.1; exact ⟨_, e9⟩) hx).mono fun e w' hq => ?_
 obtain ⟨he, hS', hM⟩ := hq
 refine ⟨he, ⟨hS', hAp.hk _ _ _, hC.hang n1 (fun j m q => hkR_ne (fun e => n3 j m (T.pm e)) q) (fun a q e hq => ?_), hR.up n2 (fun k r e hr => ?_) (fun j m q => hkR_ne q (fun e => n3 j (top_mem e) m)), hn⟩, hM⟩
 ·rw [e]; exact hkR_par hq (fun q => hx a q e)
 ·rw [e]; exact hkR_self hr (hx k e)
theorem nePb {x : Option Nat} {r : Bool} (h : x.isSome = r) (a b : Operand) (w : World) : (do eqGuard .neq 65 a b (pp x) (.pointer none); binOp .neq 65 (pp x) (.pointer none)).run Try.prog w = .ok (.bool r) w := h ▸ neP x a b w
theorem nd_drop {A B : List Nat} {k : Nat} (h : (A ++ k :: B).Nodup) : (A ++ B).Nodup := (List.perm_middle.nodup_iff.1 h).of_cons
theorem Fre.of (h : HS D w t mb R root lk) {v : Value} (hD : ∀ b, ob v = some b → ¬ D b ∧ b ≠ mb.m ∧ ob mb.h ≠ some b) : Fre R t mb v := fun b hb => by
 obtain ⟨h1, h2, h3⟩ := hD b hb
 refine ⟨fun e => h1 (e ▸ h.dt), ?_, h2, h3, fun j q hj => ⟨fun e => h1 (h.ds hj (Or.inl e)).1, fun e => h1 (h.ds hj (Or.inr e)).1⟩⟩
 cases e : R b with
 | none => rfl
 | some q => exact absurd (h.dk e) h1
theorem take_B {C : Cx} {k : Nat} {i : Py} {s : Int} {r : T} {f : Int → Option Nat} {n : Nat} (hT : RS D w t mb C (.n k i s .e r) lk R root) (hM : OM w mb.m f n) (hw : (Lit.int .i64 i.i).wf = true) (hfi : (f i.i).isSome = true) (ot : (T.n k i s .e r).ok) (oc : okC C) (hb : csz C + (T.n k i s .e r).sz ≤ 8000) (hlk : 0 ≤ lk ∧ lk + 1 + 8 * C.length ≤ 4000000000000000000) (hmh : ob mb.h ≠ some mb.m) :
  Calls Try.prog 38 #[pt t 0, pt k 0] w fun e w' => e = .returned (.tuple #[]) ∧ ∃ lk' D', lk ≤ lk' ∧ lk' ≤ lk + 1 + 8 * C.length ∧ TS D' w' t mb [] (rebuild C r) lk' ∧ OM w' mb.m (fu f i.i none) (n - 1) ∧ Mk (fun j => D j ∨ j = mb.m) w w' ∧ (∀ j, D' j → D j) ∧ (∀ b, ob i.v = some b → ¬ D' b) ∧ Rw w' 10 i.v (i.vs.map V10.cells) := by
 obtain ⟨hS, hAp, hC, hR, hn⟩ := hT
 obtain ⟨hd1, hk⟩ := hR.1
 have h0c := csz_nn C
 have hkc : k ∉ adC C := fun m => (nd_pos hn).2.2 _ m (by unfold T.ad; simp)
 have hkt : k ∉ (T.ad r) := fun m => by
  have h2 := (nd_pos hn).2.1
  unfold T.ad at h2
  exact (List.nodup_cons.1 h2).1 (List.mem_append.2 (Or.inr m))
 refine w_enter 61 Try.func38 Try.ntmps38 rfl rfl ?_
 have M : Mk (fun j => D j ∨ j = mb.m) w w := Mk.refl _ _
 refine w_seq ?_
 refine w_any 9 [.inl (pt t 0), .inl (pt t 0), .inl (pt t 2), .inl (.map (some mb.m)), .inl (pt k 0), .inl (pt k 0), .inl (pt k 0), .inl (pt k 0), .inl (.int .i64 (i.i))] [] (by kernel_rfl) (by kernel_rfl) (by kernel_rfl) (by kernel_rfl) rfl (by kernel_rfl) (by kernel_rfl) late_nil ?_ ?_ ?_
 ·exact Ds.none rfl
 ·refine ea_cons ?_ (ea_cons ?_ (ea_cons ?_ (ea_cons ?_ (ea_cons ?_ (ea_cons ?_ (ea_cons ?_ (ea_cons ?_ (ea_cons ?_ (ea_nil)))))))))
  ·exact og_eq _ rfl (fun f wf hq hd K hK => go_run rfl (wo_mv (.tmp 0) (pt t 0) (fun _ => rfl) rfl (hK _ (Mo.refl _))))
  ·exact og_eq _ rfl (fun f wf hq hd K hK => go_run rfl (wo_nc (.tmp 6) t 0 rfl (hd 0 rfl) (hK _ (Mo.refl _))))
  ·exact og_eq _ rfl (fun f wf hq hd K hK => go_run rfl (wo_un (fun v => Instr.fieldAt 68 v 2) (.tmp 7) (pt t 0) (pt t 2) (fun _ => rfl) (hd 1 rfl) (by kernel_rfl) (hK _ (Mo.refl _))))
  ·exact og_eq _ rfl (fun f wf hq hd K hK => have hS := hS.mo hq; go_run rfl (wo_load 66 (.tmp 8) (pt t 2) (.map (some mb.m)) rfl (hd 2 rfl) (run_one hS.tr 66 2 rfl Try.underlying66 rfl) (hK _ (Mo.refl _))))
  ·exact og_eq _ rfl (fun f wf hq hd K hK => go_run rfl (wo_mv (.tmp 1) (pt k 0) (fun _ => rfl) rfl (hK _ (Mo.refl _))))
  ·exact og_eq _ rfl (fun f wf hq hd K hK => go_run rfl (wo_nc (.tmp 10) k 0 rfl (hd 4 rfl) (hK _ (Mo.refl _))))
  ·exact og_eq _ rfl (fun f wf hq hd K hK => go_run rfl (wo_un (fun v => Instr.fieldAt 93 v 0) (.tmp 11) (pt k 0) (pt k 0) (fun _ => rfl) (hd 5 rfl) (by kernel_rfl) (hK _ (Mo.refl _))))
  ·exact og_eq _ rfl (fun f wf hq hd K hK => go_run rfl (wo_un (fun v => Instr.fieldAt 83 v 0) (.tmp 12) (pt k 0) (pt k 0) (fun _ => rfl) (hd 6 rfl) (by kernel_rfl) (hK _ (Mo.refl _))))
  ·exact og_eq _ rfl (fun f wf hq hd K hK => have hS := hS.mo hq; go_run rfl (wo_load 2 (.tmp 13) (pt k 0) (.int .i64 (i.i)) rfl (hd 7 rfl) (run_one (hS.rc k _ hk) 2 0 rfl Try.underlying2 rfl) (hK _ (Mo.refl _))))
 intro kf1 w1 hq _ _
 replace hS := hS.mo hq
 replace hM := hM.mo hq
 replace M := M.trans hq
 clear hq
 refine wl_del (.tmp 9) (.tmp 14) mb.m i.i hM hfi hw rfl rfl rfl rfl rfl ?_
 intro w2 hM9 hK
 replace hM := hM9
 replace hS := hS.kept hK (fun j e q => hS.nb (by rw [← q]; exact e)) (fun b hb q => hmh (by rw [← q]; exact hb))
 replace M := M.tr hK (fun _ _ e => Or.inr e)
 clear hM9 hK
 refine w_nil (xn_then (w_seq (w_seq (w_reg ?_))))
 refine wl_m (.tmp 1) (pt k 0) ?_
 refine wl_nc (.tmp 15) k 0 rfl rfl rfl ?_
 refine wl_f 93 2 (.tmp 16) (pt k 0) (pt k 3) ?_
 refine wl_bin (fun x y => Instr.indexAt 91 x y) (.tmp 17) (.const (.int .i64 (0))) (pt k 3) (.int .i64 (0)) (pt k 3) (fun _ => rfl) rfl rfl (by kernel_rfl) rfl ?_
 refine wl_l 65 (.tmp 18) (pt k 3) (pp none) (run_one (hS.rc k _ hk) 65 3 rfl Try.underlying65 rfl) ?_
 refine wl_b .neq 65 (.tmp 19) (.const (.pointer none)) (pp none) (pp none) (.bool false) (neP none _ _ _) ?_
 refine wl_m (.tmp 20) (.bool false) ?_
 refine wl_skip rfl (wl_skip rfl (wl_skip rfl (wl_skip rfl (wl_skip rfl (wl_skip rfl ?_)))))
 refine wl_pick (.tmp 21) (.tmp 27) (.const (.bool false)) false (.bool false) (fun _ => rfl) rfl rfl rfl ?_
 refine w_nil (xn_then (w_condF rfl (w_skip (xn_then (w_seq (w_reg ?_))))))
 refine wl_m (.tmp 1) (pt k 0) ?_
 refine wl_nc (.tmp 32) k 0 rfl rfl rfl ?_
 refine wl_f 93 2 (.tmp 33) (pt k 0) (pt k 3) ?_
 refine wl_bin (fun x y => Instr.indexAt 91 x y) (.tmp 34) (.const (.int .i64 (0))) (pt k 3) (.int .i64 (0)) (pt k 3) (fun _ => rfl) rfl rfl (by kernel_rfl) rfl ?_
 refine wl_l 65 (.tmp 35) (pt k 3) (pp none) (run_one (hS.rc k _ hk) 65 3 rfl Try.underlying65 rfl) ?_
 refine wl_m (.tmp 36) (pp none) ?_
 refine w_nil (xn_then (w_seq (w_seq (w_reg ?_))))
 refine wl_m (.tmp 4) (pp none) ?_
 refine wl_b .eql 65 (.tmp 37) (.const (.pointer none)) (pp none) (pp none) (.bool true) (eqP none _ _ _) ?_
 refine w_nil (xn_then (w_condT rfl (w_reg ?_)))
 refine wl_m (.tmp 1) (pt k 0) ?_
 refine wl_nc (.tmp 39) k 0 rfl rfl rfl ?_
 refine wl_f 93 2 (.tmp 40) (pt k 0) (pt k 3) ?_
 refine wl_bin (fun x y => Instr.indexAt 91 x y) (.tmp 41) (.const (.int .i64 (1))) (pt k 3) (.int .i64 (1)) (pt k 4) (fun _ => rfl) rfl rfl (by kernel_rfl) rfl ?_
 refine wl_l 65 (.tmp 42) (pt k 4) (pp r.p) (run_one (hS.rc k _ hk) 65 4 rfl Try.underlying65 rfl) ?_
 refine wl_m (.tmp 43) (pp r.p) ?_
 refine w_nil (xn_then (w_seq (w_reg ?_)))
 refine wl_m (.tmp 0) (pt t 0) ?_
 refine wl_m (.tmp 4) (pp r.p) ?_
 refine wl_bsl [(0, (.tmp 45))] [pp r.p] 1 rfl rfl (bs1 r.p) rfl ?_
 intro g1 w3 hk hz hq Q1
 have nd_g1 : ¬ D g1 := fun e => by have := hS.lt e; omega
 replace hS := hS.mo hq
 replace hM := hM.mo hq
 replace M := M.trans hq
 clear hk hz hq
 refine wl_callg 34 [(.tmp 44), (.tmp 46)] _ [pt t 0, .slice (some ⟨g1, 0, none⟩) 1 1] (.tuple #[]) rfl rfl (fun _ _ => by kernel_rfl) (look_n [r.p] g1 hS Q1 nd_g1 (by simp only [List.length_cons, List.length_nil]; omega)) rfl ?_
 intro w4 hF
 have hc1 := cnt_le [r.p]
 simp only [List.length_cons, List.length_nil] at hc1
 obtain ⟨hS2, hM2⟩ := hF
 replace hS := hS2
 replace M := M.tr hM2 (fun _ _ e => Or.inl e)
 replace hM := hM.mk hM2 hS.nb
 clear hS2 hM2 Q1 nd_g1
 refine w_nil (xn_then (w_seq (w_reg ?_)))
 refine wl_m (.tmp 1) (pt k 0) ?_
 refine wl_nc (.tmp 48) k 0 rfl rfl rfl ?_
 refine wl_f 93 1 (.tmp 49) (pt k 0) (pt k 2) ?_
 refine wl_l 65 (.tmp 50) (pt k 2) (pp (top C)) (run_one (hS.rc k _ hk) 65 2 rfl Try.underlying65 rfl) ?_
 refine wl_m (.tmp 51) (pp (top C)) ?_
 refine w_nil (xn_then (w_seq (w_reg ?_)))
 refine wl_m (.tmp 0) (pt t 0) ?_
 refine wl_m (.tmp 5) (pp (top C)) ?_
 refine wl_m (.tmp 1) (pt k 0) ?_
 refine wl_call 53 [(.tmp 54)] _ [pt k 0] (.int .i64 (if sideC C then 1 else 0)) rfl rfl (fun _ _ => by kernel_rfl) (side_c hS hC hk (fun m => (nd_pos hn).2.2 _ m (by unfold T.ad; simp))) rfl ?_
 intro w5 hq
 replace hS := hS.mo hq
 replace hM := hM.mo hq
 replace M := M.trans hq
 clear hq
 refine wl_m (.tmp 4) (pp r.p) ?_
 have hnb := hS.nb
 refine wl_callg 47 [(.tmp 52), (.tmp 53), (.tmp 55), (.tmp 56)] _ [pt t 0, pp (top C), .int .i64 (if sideC C then 1 else 0), pp r.p] (.tuple #[]) rfl rfl (fun _ _ => by kernel_rfl) (hangT2 (tr := r) hS hAp hC hR.2.2 (by have := hn; simp only [T.ad, List.nil_append] at this; exact nd_drop this)) rfl ?_
 intro w6 hF
 obtain ⟨hT, hM2⟩ := hF
 replace M := M.tr hM2 (fun _ _ e => Or.inl e)
 replace hM := hM.mk hM2 hS.nb
 clear hM2
 have hT9 := hT.drop ((hkR_ne (fun e => hkt (T.pm e)) (fun e => hkc (top_mem e))).trans hk) hkc hkt
 have hRv := (hT.hs.sv k _ ((hkR_ne (fun e => hkt (T.pm e)) (fun e => hkc (top_mem e))).trans hk)).1
 refine w_nil (xn_then (w_reg ?_))
 refine wl_m (.tmp 0) (pt t 0) ?_
 refine wl_m (.tmp 5) (pp (top C)) ?_
 refine wl_callg 48 [(.tmp 58), (.tmp 59)] _ [pt t 0, pp (top C)] (.tuple #[]) rfl rfl (fun _ _ => by kernel_rfl) (settle_n ⟨_, _, hT9⟩ ot.2.2 oc (by simp only [T.sz] at hb; omega) (by omega)) rfl ?_
 intro w7 hF
 obtain ⟨lk2, hk1, hk2, hT2, hM2⟩ := hF
 replace hM := hM.mk hM2 (fun e => hnb e.1)
 replace M := M.tr hM2 (fun _ _ e => Or.inl e.1)
 replace hRv := hRv.kept hM2 (fun b hb e => e.2.2.1 hb)
 clear hM2
 refine w_nil ?_
 exact w_end0 rfl ⟨rfl, lk2, _, by omega, by omega, hT2, hM, M, fun j e => e.1, fun b hb e => e.2.2.1 hb, hRv⟩
theorem take_C {C : Cx} {k lk0 : Nat} {i li : Py} {s ls : Int} {la lb : T} {f : Int → Option Nat} {n : Nat} (hT : RS D w t mb C (.n k i s (.n lk0 li ls la lb) .e) lk R root) (hM : OM w mb.m f n) (hw : (Lit.int .i64 i.i).wf = true) (hfi : (f i.i).isSome = true) (ot : (T.n k i s (.n lk0 li ls la lb) .e).ok) (oc : okC C) (hb : csz C + (T.n k i s (.n lk0 li ls la lb) .e).sz ≤ 8000) (hlk : 0 ≤ lk ∧ lk + 1 + 8 * C.length ≤ 4000000000000000000) (hmh : ob mb.h ≠ some mb.m) :
  Calls Try.prog 38 #[pt t 0, pt k 0] w fun e w' => e = .returned (.tuple #[]) ∧ ∃ lk' D', lk ≤ lk' ∧ lk' ≤ lk + 1 + 8 * C.length ∧ TS D' w' t mb [] (rebuild C (.n lk0 li ls la lb)) lk' ∧ OM w' mb.m (fu f i.i none) (n - 1) ∧ Mk (fun j => D j ∨ j = mb.m) w w' ∧ (∀ j, D' j → D j) ∧ (∀ b, ob i.v = some b → ¬ D' b) ∧ Rw w' 10 i.v (i.vs.map V10.cells) := by
 obtain ⟨hS, hAp, hC, hR, hn⟩ := hT
 obtain ⟨hd1, hk⟩ := hR.1
 have h0c := csz_nn C
 have hkc : k ∉ adC C := fun m => (nd_pos hn).2.2 _ m (by unfold T.ad; simp)
 have hkt : k ∉ (T.ad (.n lk0 li ls la lb)) := fun m => by
  have h2 := (nd_pos hn).2.1
  unfold T.ad at h2
  exact (List.nodup_cons.1 h2).1 (List.mem_append.2 (Or.inl m))
 have h0l := T.sz_nn la; have h0m := T.sz_nn lb
 refine w_enter 61 Try.func38 Try.ntmps38 rfl rfl ?_
 have M : Mk (fun j => D j ∨ j = mb.m) w w := Mk.refl _ _
 refine w_seq ?_
 refine w_any 9 [.inl (pt t 0), .inl (pt t 0), .inl (pt t 2), .inl (.map (some mb.m)), .inl (pt k 0), .inl (pt k 0), .inl (pt k 0), .inl (pt k 0), .inl (.int .i64 (i.i))] [] (by kernel_rfl) (by kernel_rfl) (by kernel_rfl) (by kernel_rfl) rfl (by kernel_rfl) (by kernel_rfl) late_nil ?_ ?_ ?_
 ·exact Ds.none rfl
 ·refine ea_cons ?_ (ea_cons ?_ (ea_cons ?_ (ea_cons ?_ (ea_cons ?_ (ea_cons ?_ (ea_cons ?_ (ea_cons ?_ (ea_cons ?_ (ea_nil)))))))))
  ·exact og_eq _ rfl (fun f wf hq hd K hK => go_run rfl (wo_mv (.tmp 0) (pt t 0) (fun _ => rfl) rfl (hK _ (Mo.refl _))))
  ·exact og_eq _ rfl (fun f wf hq hd K hK => go_run rfl (wo_nc (.tmp 6) t 0 rfl (hd 0 rfl) (hK _ (Mo.refl _))))
  ·exact og_eq _ rfl (fun f wf hq hd K hK => go_run rfl (wo_un (fun v => Instr.fieldAt 68 v 2) (.tmp 7) (pt t 0) (pt t 2) (fun _ => rfl) (hd 1 rfl) (by kernel_rfl) (hK _ (Mo.refl _))))
  ·exact og_eq _ rfl (fun f wf hq hd K hK => have hS := hS.mo hq; go_run rfl (wo_load 66 (.tmp 8) (pt t 2) (.map (some mb.m)) rfl (hd 2 rfl) (run_one hS.tr 66 2 rfl Try.underlying66 rfl) (hK _ (Mo.refl _))))
  ·exact og_eq _ rfl (fun f wf hq hd K hK => go_run rfl (wo_mv (.tmp 1) (pt k 0) (fun _ => rfl) rfl (hK _ (Mo.refl _))))
  ·exact og_eq _ rfl (fun f wf hq hd K hK => go_run rfl (wo_nc (.tmp 10) k 0 rfl (hd 4 rfl) (hK _ (Mo.refl _))))
  ·exact og_eq _ rfl (fun f wf hq hd K hK => go_run rfl (wo_un (fun v => Instr.fieldAt 93 v 0) (.tmp 11) (pt k 0) (pt k 0) (fun _ => rfl) (hd 5 rfl) (by kernel_rfl) (hK _ (Mo.refl _))))
  ·exact og_eq _ rfl (fun f wf hq hd K hK => go_run rfl (wo_un (fun v => Instr.fieldAt 83 v 0) (.tmp 12) (pt k 0) (pt k 0) (fun _ => rfl) (hd 6 rfl) (by kernel_rfl) (hK _ (Mo.refl _))))
  ·exact og_eq _ rfl (fun f wf hq hd K hK => have hS := hS.mo hq; go_run rfl (wo_load 2 (.tmp 13) (pt k 0) (.int .i64 (i.i)) rfl (hd 7 rfl) (run_one (hS.rc k _ hk) 2 0 rfl Try.underlying2 rfl) (hK _ (Mo.refl _))))
 intro kf1 w1 hq _ _
 replace hS := hS.mo hq
 replace hM := hM.mo hq
 replace M := M.trans hq
 clear hq
 refine wl_del (.tmp 9) (.tmp 14) mb.m i.i hM hfi hw rfl rfl rfl rfl rfl ?_
 intro w2 hM9 hK
 replace hM := hM9
 replace hS := hS.kept hK (fun j e q => hS.nb (by rw [← q]; exact e)) (fun b hb q => hmh (by rw [← q]; exact hb))
 replace M := M.tr hK (fun _ _ e => Or.inr e)
 clear hM9 hK
 refine w_nil (xn_then (w_seq (w_seq (w_reg ?_))))
 refine wl_m (.tmp 1) (pt k 0) ?_
 refine wl_nc (.tmp 15) k 0 rfl rfl rfl ?_
 refine wl_f 93 2 (.tmp 16) (pt k 0) (pt k 3) ?_
 refine wl_bin (fun x y => Instr.indexAt 91 x y) (.tmp 17) (.const (.int .i64 (0))) (pt k 3) (.int .i64 (0)) (pt k 3) (fun _ => rfl) rfl rfl (by kernel_rfl) rfl ?_
 refine wl_l 65 (.tmp 18) (pt k 3) (pt lk0 0) (run_one (hS.rc k _ hk) 65 3 rfl Try.underlying65 rfl) ?_
 refine wl_b .neq 65 (.tmp 19) (.const (.pointer none)) (pt lk0 0) (pp none) (.bool true) (neP (some lk0) _ _ _) ?_
 refine wl_m (.tmp 20) (.bool true) ?_
 refine wl_m (.tmp 1) (pt k 0) ?_
 refine wl_nc (.tmp 22) k 0 rfl rfl rfl ?_
 refine wl_f 93 2 (.tmp 23) (pt k 0) (pt k 3) ?_
 refine wl_bin (fun x y => Instr.indexAt 91 x y) (.tmp 24) (.const (.int .i64 (1))) (pt k 3) (.int .i64 (1)) (pt k 4) (fun _ => rfl) rfl rfl (by kernel_rfl) rfl ?_
 refine wl_l 65 (.tmp 25) (pt k 4) (pp none) (run_one (hS.rc k _ hk) 65 4 rfl Try.underlying65 rfl) ?_
 refine wl_b .neq 65 (.tmp 26) (.const (.pointer none)) (pp none) (pp none) (.bool false) (neP none _ _ _) ?_
 refine wl_pick (.tmp 21) (.tmp 27) (.const (.bool false)) true (.bool false) (fun _ => rfl) rfl rfl rfl ?_
 refine w_nil (xn_then (w_condF rfl (w_skip (xn_then (w_seq (w_reg ?_))))))
 refine wl_m (.tmp 1) (pt k 0) ?_
 refine wl_nc (.tmp 32) k 0 rfl rfl rfl ?_
 refine wl_f 93 2 (.tmp 33) (pt k 0) (pt k 3) ?_
 refine wl_bin (fun x y => Instr.indexAt 91 x y) (.tmp 34) (.const (.int .i64 (0))) (pt k 3) (.int .i64 (0)) (pt k 3) (fun _ => rfl) rfl rfl (by kernel_rfl) rfl ?_
 refine wl_l 65 (.tmp 35) (pt k 3) (pt lk0 0) (run_one (hS.rc k _ hk) 65 3 rfl Try.underlying65 rfl) ?_
 refine wl_m (.tmp 36) (pt lk0 0) ?_
 refine w_nil (xn_then (w_seq (w_seq (w_reg ?_))))
 refine wl_m (.tmp 4) (pt lk0 0) ?_
 refine wl_b .eql 65 (.tmp 37) (.const (.pointer none)) (pt lk0 0) (pp none) (.bool false) (eqP (some lk0) _ _ _) ?_
 refine w_nil (xn_then (w_condF rfl (w_skip (xn_then (w_seq (w_reg ?_))))))
 refine wl_m (.tmp 0) (pt t 0) ?_
 refine wl_m (.tmp 4) (pt lk0 0) ?_
 refine wl_bsl [(0, (.tmp 45))] [pp (some lk0)] 1 rfl rfl (bs1 (some lk0)) rfl ?_
 intro g1 w3 hk hz hq Q1
 have nd_g1 : ¬ D g1 := fun e => by have := hS.lt e; omega
 replace hS := hS.mo hq
 replace hM := hM.mo hq
 replace M := M.trans hq
 clear hk hz hq
 refine wl_callg 34 [(.tmp 44), (.tmp 46)] _ [pt t 0, .slice (some ⟨g1, 0, none⟩) 1 1] (.tuple #[]) rfl rfl (fun _ _ => by kernel_rfl) (look_n [(some lk0)] g1 hS Q1 nd_g1 (by simp only [List.length_cons, List.length_nil]; omega)) rfl ?_
 intro w4 hF
 have hc1 := cnt_le [(some lk0)]
 simp only [List.length_cons, List.length_nil] at hc1
 obtain ⟨hS2, hM2⟩ := hF
 replace hS := hS2
 replace M := M.tr hM2 (fun _ _ e => Or.inl e)
 replace hM := hM.mk hM2 hS.nb
 clear hS2 hM2 Q1 nd_g1
 refine w_nil (xn_then (w_seq (w_reg ?_)))
 refine wl_m (.tmp 1) (pt k 0) ?_
 refine wl_nc (.tmp 48) k 0 rfl rfl rfl ?_
 refine wl_f 93 1 (.tmp 49) (pt k 0) (pt k 2) ?_
 refine wl_l 65 (.tmp 50) (pt k 2) (pp (top C)) (run_one (hS.rc k _ hk) 65 2 rfl Try.underlying65 rfl) ?_
 refine wl_m (.tmp 51) (pp (top C)) ?_
 refine w_nil (xn_then (w_seq (w_reg ?_)))
 refine wl_m (.tmp 0) (pt t 0) ?_
 refine wl_m (.tmp 5) (pp (top C)) ?_
 refine wl_m (.tmp 1) (pt k 0) ?_
 refine wl_call 53 [(.tmp 54)] _ [pt k 0] (.int .i64 (if sideC C then 1 else 0)) rfl rfl (fun _ _ => by kernel_rfl) (side_c hS hC hk (fun m => (nd_pos hn).2.2 _ m (by unfold T.ad; simp))) rfl ?_
 intro w5 hq
 replace hS := hS.mo hq
 replace hM := hM.mo hq
 replace M := M.trans hq
 clear hq
 refine wl_m (.tmp 4) (pt lk0 0) ?_
 have hnb := hS.nb
 refine wl_callg 47 [(.tmp 52), (.tmp 53), (.tmp 55), (.tmp 56)] _ [pt t 0, pp (top C), .int .i64 (if sideC C then 1 else 0), pt lk0 0] (.tuple #[]) rfl rfl (fun _ _ => by kernel_rfl) (hangT2 (tr := (.n lk0 li ls la lb)) hS hAp hC hR.2.1 (by have := hn; simp only [T.ad, List.append_nil] at this ⊢; exact nd_drop this)) rfl ?_
 intro w6 hF
 obtain ⟨hT, hM2⟩ := hF
 replace M := M.tr hM2 (fun _ _ e => Or.inl e)
 replace hM := hM.mk hM2 hS.nb
 clear hM2
 have hT9 := hT.drop ((hkR_ne (fun e => hkt (T.pm e)) (fun e => hkc (top_mem e))).trans hk) hkc hkt
 have hRv := (hT.hs.sv k _ ((hkR_ne (fun e => hkt (T.pm e)) (fun e => hkc (top_mem e))).trans hk)).1
 refine w_nil (xn_then (w_reg ?_))
 refine wl_m (.tmp 0) (pt t 0) ?_
 refine wl_m (.tmp 5) (pp (top C)) ?_
 refine wl_callg 48 [(.tmp 58), (.tmp 59)] _ [pt t 0, pp (top C)] (.tuple #[]) rfl rfl (fun _ _ => by kernel_rfl) (settle_n ⟨_, _, hT9⟩ ot.2.1 oc (by simp only [T.sz] at hb ⊢; omega) (by omega)) rfl ?_
 intro w7 hF
 obtain ⟨lk2, hk1, hk2, hT2, hM2⟩ := hF
 replace hM := hM.mk hM2 (fun e => hnb e.1)
 replace M := M.tr hM2 (fun _ _ e => Or.inl e.1)
 replace hRv := hRv.kept hM2 (fun b hb e => e.2.2.1 hb)
 clear hM2
 refine w_nil ?_
 exact w_end0 rfl ⟨rfl, lk2, _, by omega, by omega, hT2, hM, M, fun j e => e.1, fun b hb e => e.2.2.1 hb, hRv⟩
end
end G
end Go.Proofs.Ythfemlhmnjfjiaa
/-
 The tree's takeOver.
-/
namespace Go.Proofs.Ythfemlhmnjfjiaa
open Go.RowKit
namespace G
section
variable {D : Nat → Prop} {w : World} {t : Nat} {mb : Hd} {R : Mp} {root : Option Nat} {lk : Int}
theorem RS.at2 (C : Cx) : ∀ (Ls : Cx) {tr1 : T}, RS D w t mb C (plug Ls tr1) lk R root → RS D w t mb (Ls ++ C) tr1 lk R root
 | [], _, h => h
 | f :: Ls, tr1, h => (RS.at2 C Ls (tr1 := f.jn tr1) h).dn.1
theorem RepC.deep {sc : List Int} {R : Mp} {root : Option Nat} {f : Fr} {C : Cx} : ∀ {Ls : Cx} {p : Option Nat}, RepC sc R root (Ls ++ f :: C) p → ∃ q h c, R f.k = some (f.rc (top C) q h c)
 | [], p, h => ⟨p, h.1⟩
 | _ :: Ls, _, h => RepC.deep (Ls := Ls) h.2.2
theorem top_app (Ls : Cx) (f g : Fr) (C : Cx) (h : f.k = g.k) : top (Ls ++ f :: C) = top (Ls ++ g :: C) := by
 cases Ls with
 | nil => show some f.k = some g.k; rw [h]
 | cons y Ls => rfl
theorem mem_deep : ∀ (L : Cx) (f : Fr) (C : Cx), f.k ∈ adC (L ++ f :: C)
 | [], f, C => by show f.k ∈ f.k :: (f.o.ad ++ adC C); simp
 | y :: L, f, C => by show f.k ∈ y.k :: (y.o.ad ++ adC (L ++ f :: C)); simp [mem_deep L f C]
theorem repC_setid {sc : List Int} {R : Mp} {root : Option Nat} {k : Nat} {i j : Py} {s : Int} {d : Bool} {o : T} {C : Cx} {q : Option Nat} {hh : Value} {cc : List Sm} (hq : R k = some ((⟨k, i, s, d, o⟩ : Fr).rc (top C) q hh cc)) : ∀ {Ls : Cx} {p : Option Nat}, RepC sc R root (Ls ++ ⟨k, i, s, d, o⟩ :: C) p → (adC (Ls ++ ⟨k, i, s, d, o⟩ :: C)).Nodup →
  RepC sc (ud R k ((⟨k, j, s, d, o⟩ : Fr).rc (top C) q hh cc)) root (Ls ++ ⟨k, j, s, d, o⟩ :: C) p
 | [], p, h, hn => by
  have hnd := List.nodup_cons.1 hn
  simp only [List.mem_append, not_or] at hnd
  obtain ⟨h9, c9, e9⟩ := h.1
  have e := e9.symm.trans hq
  refine ⟨⟨hh, cc, ?_⟩, Rep.ud hnd.1.1 h.2.1, RepC.ud hnd.1.2 h.2.2⟩
  rw [ud_same]
  simp only [Option.some.injEq, Fr.rc, Rc.mk.injEq] at e ⊢
  cases d <;> simp_all
 | g :: Ls, p, h, hn => by
  have hnd := List.nodup_cons.1 hn
  simp only [List.mem_append, not_or] at hnd
  have hk : ∀ (L : Cx), k ∈ adC (L ++ ⟨k, i, s, d, o⟩ :: C) := fun L => mem_deep L ⟨k, i, s, d, o⟩ C
  have hgk : g.k ≠ k := fun e => hnd.1.2 (by rw [e]; exact hk Ls)
  have hn2 := List.nodup_append.1 hnd.2
  have hgo : k ∉ g.o.ad := fun m => hn2.2.2 k m k (hk Ls) rfl
  obtain ⟨h9, c9, e9⟩ := h.1
  refine ⟨⟨h9, c9, (ud_ne _ _ hgk).trans ?_⟩, Rep.ud hgo h.2.1, repC_setid hq h.2.2 hn2.2.1⟩
  rw [e9]
  show some (g.rc (top (Ls ++ _)) p h9 c9) = _
  rw [top_app Ls ⟨k, i, s, d, o⟩ ⟨k, j, s, d, o⟩ C rfl]
  rfl
theorem adC_setid (k : Nat) (i j : Py) (s : Int) (d : Bool) (o : T) (C : Cx) : ∀ Ls : Cx, adC (Ls ++ ⟨k, i, s, d, o⟩ :: C) = adC (Ls ++ ⟨k, j, s, d, o⟩ :: C)
 | [] => rfl
 | g :: Ls => by show g.k :: (g.o.ad ++ adC (Ls ++ _)) = g.k :: (g.o.ad ++ adC (Ls ++ _)); rw [adC_setid k i j s d o C Ls]
theorem plug_mem : ∀ (C : Cx) {tr : T} {x : Py}, x ∈ tr.ids → x ∈ (plug C tr).ids
 | [], _, _, h => h
 | f :: C, tr, x, h => by
  unfold plug
  refine plug_mem C ?_
  unfold Fr.jn
  split <;> simp [T.ids, h]
theorem over_n {C : Cx} {k rk : Nat} {i ri : Py} {s rs : Int} {l ra rb : T} {f : Int → Option Nat} {n : Nat} (hT : RS D w t mb C (.n k i s l (.n rk ri rs ra rb)) lk R root) (hM : OM w mb.m f n) (hn1 : n ≤ 2000) (hwr : ∀ j ∈ (T.n rk ri rs ra rb).ids, (Lit.int .i64 j.i).wf = true) (ot : (T.n k i s l (.n rk ri rs ra rb)).ok) (hlk : 0 ≤ lk ∧ lk + 2 + (T.n rk ri rs ra rb).ht ≤ 4000000000000000000) (hmh : ob mb.h ≠ some mb.m) :
  Calls Try.prog 54 #[pt t 0, pt k 0] w fun e w' => ∃ (Ls : Cx) (kn : Nat) (i2 : Py) (s2 : Int) (b : T) (lk' : Int) (q : Option Nat) (qh : Value) (qc : List Sm), e = .returned (pt kn 0) ∧ plug Ls (.n kn i2 s2 .e b) = (T.n rk ri rs ra rb) ∧ okC Ls ∧ (∀ g ∈ Ls, g.d = false) ∧ (T.n kn i2 s2 .e b).ok ∧ csz Ls + b.sz + 1 = (T.n rk ri rs ra rb).sz ∧ lk ≤ lk' ∧ lk' ≤ lk + 2 + Ls.length ∧ Ls.length + 1 ≤ (T.n rk ri rs ra rb).ht ∧
   R k = some ⟨top C, l.p, q, s, i, qh, qc⟩ ∧ HS D w' t mb (ud R k ⟨top C, l.p, q, s, i2, qh, qc⟩) root lk' ∧ OM w' mb.m (fu f i2.i (some k)) (if (f i2.i).isSome then n else n + 1) ∧ Mk (fun j => D j ∨ j = mb.m) w w' ∧ Rw w' 10 i.v (i.vs.map V10.cells) := by
 obtain ⟨hS, hAp, hC0, hR0, hn0⟩ := hT
 obtain ⟨hd1, hk⟩ := hR0.1
 obtain ⟨H, eH⟩ : ∃ H, (T.n rk ri rs ra rb).ht = H := ⟨_, rfl⟩
 rw [eH] at hlk
 refine w_enter 49 Try.func54 Try.ntmps54 rfl rfl ?_
 have M : Mk (fun j => D j ∨ j = mb.m) w w := Mk.refl _ _
 refine w_seq (w_reg ?_)
 refine wl_m (.const (.pointer none)) (pp none) ?_
 refine w_nil (xn_then (w_seq (w_reg ?_)))
 refine wl_m (.tmp 1) (pt k 0) ?_
 refine wl_nc (.tmp 6) k 0 rfl rfl rfl ?_
 refine wl_f 93 2 (.tmp 7) (pt k 0) (pt k 3) ?_
 refine wl_bin (fun x y => Instr.indexAt 91 x y) (.tmp 8) (.const (.int .i64 (1))) (pt k 3) (.int .i64 (1)) (pt k 4) (fun _ => rfl) rfl rfl (by kernel_rfl) rfl ?_
 refine wl_l 65 (.tmp 9) (pt k 4) (pt rk 0) (run_one (hS.rc k _ hk) 65 4 rfl Try.underlying65 rfl) ?_
 refine wl_m (.tmp 10) (pt rk 0) ?_
 refine w_nil (xn_then (w_seq (w_reg ?_)))
 refine wl_m (.tmp 0) (pt t 0) ?_
 refine wl_m (.tmp 1) (pt k 0) ?_
 refine wl_m (.tmp 5) (pt rk 0) ?_
 refine wl_bsl [(0, (.tmp 12)), (1, (.tmp 13))] [pp (some k), pp (some rk)] 2 rfl rfl (bs2 (some k) (some rk)) rfl ?_
 intro g1 w1 hk hz hq Q1
 have nd_g1 : ¬ D g1 := fun e => by have := hS.lt e; omega
 replace hS := hS.mo hq
 replace hM := hM.mo hq
 replace M := M.trans hq
 clear hk hz hq
 refine wl_callg 34 [(.tmp 11), (.tmp 14)] _ [pt t 0, .slice (some ⟨g1, 0, none⟩) 2 2] (.tuple #[]) rfl rfl (fun _ _ => by kernel_rfl) (look_n [(some k), (some rk)] g1 hS Q1 nd_g1 (by simp only [List.length_cons, List.length_nil]; omega)) rfl ?_
 intro w2 hF
 have hc1 := cnt_le [(some k), (some rk)]
 simp only [List.length_cons, List.length_nil] at hc1
 obtain ⟨hS2, hM2⟩ := hF
 replace hS := hS2
 replace M := M.tr hM2 (fun _ _ e => Or.inl e)
 replace hM := hM.mk hM2 hS.nb
 clear hS2 hM2 Q1 nd_g1
 refine w_nil (xn_then (w_seq (w_block ?_)))
 refine w_loop (fun m l0 w1 => ∃ (Ls : Cx) (tr1 : T) (lk1 : Int) (k1 : Nat), m = tr1.ht ∧ look l0 0 = pt t 0 ∧ look l0 1 = pt k 0 ∧ look l0 5 = pt k1 0 ∧ tr1.p = some k1 ∧ HS D w1 t mb R root lk1 ∧ OM w1 mb.m f n ∧ tr1.ok ∧ okC Ls ∧ (∀ g ∈ Ls, g.d = false) ∧ plug Ls tr1 = (T.n rk ri rs ra rb) ∧ csz Ls + tr1.sz = (T.n rk ri rs ra rb).sz ∧ lk ≤ lk1 ∧ lk1 ≤ lk + 2 + Ls.length ∧ Ls.length + tr1.ht ≤ H ∧ Mk (fun j => D j ∨ j = mb.m) w w1) _ ⟨[], (T.n rk ri rs ra rb), ((lk) + cnt [(some k), (some rk)]), rk, rfl, rfl, rfl, rfl, rfl, hS, hM, ot.2.2, fun _ h => (by cases h), fun _ h => (by cases h), rfl, by simp only [csz]; omega, by omega, by simp only [List.length_nil]; omega, by rw [eH]; simp, M⟩ ?_
 clear M hS hM hk
 rintro m l1 wl ⟨Ls, tr1, lk1, k1, rfl, e0, e1, e5, hp1, hS, hM, ok1, okL, hLd, hpl, hcs, hl1, hl2, hht, M⟩
 obtain ⟨_, _, hC, hR, hn⟩ := RS.at2 ((⟨k, i, s, true, l⟩ : Fr) :: C) Ls (tr1 := tr1) (R := R) (root := root) (by rw [hpl]; exact (RS.dn (f := (⟨k, i, s, true, l⟩ : Fr)) (C := C) (tr := (T.n rk ri rs ra rb)) ⟨hS, hAp, hC0, hR0, hn0⟩).1)
 have hlk0 : 0 ≤ lk1 := by omega
 cases tr1 with
 | e => cases hp1
 | n kk i2 s2 a b =>
  cases hp1
  obtain ⟨⟨hd2, hkk⟩, ha, hb⟩ := hR
  have h0a := T.sz_nn a; have h0b := T.sz_nn b
  simp only [T.ht] at hht
  have hml := Nat.le_max_left a.ht b.ht
  cases a with
  | n ak ai az al ar =>
   refine w_seq (w_seq (w_reg ?_))
   refine wl_mv (.tmp 5) (pt k1 0) (fun _ => rfl) e5 rfl ?_
   refine wl_nc (.tmp 16) k1 0 rfl rfl rfl ?_
   refine wl_f 93 2 (.tmp 17) (pt k1 0) (pt k1 3) ?_
   refine wl_bin (fun x y => Instr.indexAt 91 x y) (.tmp 18) (.const (.int .i64 (0))) (pt k1 3) (.int .i64 (0)) (pt k1 3) (fun _ => rfl) rfl rfl (by kernel_rfl) rfl ?_
   refine wl_l 65 (.tmp 19) (pt k1 3) (pt ak 0) (run_one (hS.rc k1 _ hkk) 65 3 rfl Try.underlying65 rfl) ?_
   refine wl_b .neq 65 (.tmp 20) (.const (.pointer none)) (pt ak 0) (pp none) (.bool true) (neP (some ak) _ _ _) ?_
   refine w_nil (xn_then (w_condT rfl (w_skip (xn_then (w_block (w_seq (w_reg ?_)))))))
   refine wl_mv (.tmp 5) (pt k1 0) (fun _ => rfl) e5 rfl ?_
   refine wl_nc (.tmp 22) k1 0 rfl rfl rfl ?_
   refine wl_f 93 2 (.tmp 23) (pt k1 0) (pt k1 3) ?_
   refine wl_bin (fun x y => Instr.indexAt 91 x y) (.tmp 24) (.const (.int .i64 (0))) (pt k1 3) (.int .i64 (0)) (pt k1 3) (fun _ => rfl) rfl rfl (by kernel_rfl) rfl ?_
   refine wl_l 65 (.tmp 25) (pt k1 3) (pt ak 0) (run_one (hS.rc k1 _ hkk) 65 3 rfl Try.underlying65 rfl) ?_
   refine wl_m (.tmp 26) (pt ak 0) ?_
   refine w_nil (xn_then (w_reg ?_))
   refine wl_mv (.tmp 0) (pt t 0) (fun _ => rfl) e0 rfl ?_
   refine wl_m (.tmp 5) (pt ak 0) ?_
   refine wl_bsl [(0, (.tmp 28))] [pp (some ak)] 1 rfl rfl (bs1 (some ak)) rfl ?_
   intro g11 w11 hk hz hq Q11
   have nd_g11 : ¬ D g11 := fun e => by have := hS.lt e; omega
   replace hS := hS.mo hq
   replace hM := hM.mo hq
   replace M := M.trans hq
   clear hk hz hq
   refine wl_callg 34 [(.tmp 27), (.tmp 29)] _ [pt t 0, .slice (some ⟨g11, 0, none⟩) 1 1] (.tuple #[]) rfl rfl (fun _ _ => by kernel_rfl) (look_n [(some ak)] g11 hS Q11 nd_g11 (by simp only [List.length_cons, List.length_nil]; omega)) rfl ?_
   intro w12 hF
   have hc1 := cnt_le [(some ak)]
   simp only [List.length_cons, List.length_nil] at hc1
   obtain ⟨hS2, hM2⟩ := hF
   replace hS := hS2
   replace M := M.tr hM2 (fun _ _ e => Or.inl e)
   replace hM := hM.mk hM2 hS.nb
   clear hS2 hM2 Q11 nd_g11
   refine w_nil (xn_blk ?_)
   exact xn_loop (T.n ak ai az al ar).ht (by simp only [T.ht]; omega) ⟨(⟨k1, i2, s2, false, b⟩ : Fr) :: Ls, (T.n ak ai az al ar), ((lk1) + cnt [(some ak)]), ak, rfl, e0, e1, rfl, rfl, hS, hM, ok1.2.1, fun g hg => by rcases List.mem_cons.1 hg with rfl | hg; exact ok1.2.2; exact okL g hg, fun g hg => by rcases List.mem_cons.1 hg with rfl | hg; rfl; exact hLd g hg, hpl, by simp only [csz, T.sz] at hcs ⊢; omega, by omega, by simp only [List.length_cons]; omega, by simp only [List.length_cons]; omega, M⟩
  | e =>
   obtain ⟨q, qh, qc, hqk⟩ := hC.deep
   unfold Fr.rc at hqk
   replace hqk : R k = some ⟨top C, l.p, q, s, i, qh, qc⟩ := hqk
   have n1 := nd_pos hn
   have hne : k ≠ k1 := fun e => n1.2.2 k (mem_deep Ls (⟨k, i, s, true, l⟩ : Fr) C) (by rw [e]; unfold T.ad; simp)
   have ne_k_k1 := hne
   have hq0 := hqk
   have hi2v : ∃ p n c, i2.v = .slice p n c := by obtain ⟨p9, c9, e9, _⟩ := (hS.sv k1 _ hkk).1; exact ⟨p9, _, c9, e9⟩
   obtain ⟨vp, vn, vc, hi2v⟩ := hi2v
   have hi2m : i2 ∈ (T.n rk ri rs ra rb).ids := by rw [← hpl]; exact plug_mem Ls (by unfold T.ids; simp)
   refine w_seq (w_seq (w_reg ?_))
   refine wl_mv (.tmp 5) (pt k1 0) (fun _ => rfl) e5 rfl ?_
   refine wl_nc (.tmp 16) k1 0 rfl rfl rfl ?_
   refine wl_f 93 2 (.tmp 17) (pt k1 0) (pt k1 3) ?_
   refine wl_bin (fun x y => Instr.indexAt 91 x y) (.tmp 18) (.const (.int .i64 (0))) (pt k1 3) (.int .i64 (0)) (pt k1 3) (fun _ => rfl) rfl rfl (by kernel_rfl) rfl ?_
   refine wl_l 65 (.tmp 19) (pt k1 3) (pp none) (run_one (hS.rc k1 _ hkk) 65 3 rfl Try.underlying65 rfl) ?_
   refine wl_b .neq 65 (.tmp 20) (.const (.pointer none)) (pp none) (pp none) (.bool false) (neP none _ _ _) ?_
   refine w_nil (xn_then (w_condF rfl (w_exit (xx_then (xx_then (xx_blk (xn_then (w_seq (w_reg ?_)))))))))
   refine wl_mv (.tmp 1) (pt k 0) (fun _ => rfl) e1 rfl ?_
   refine wl_mv (.tmp 5) (pt k1 0) (fun _ => rfl) e5 rfl ?_
   refine wl_nc (.tmp 32) k1 0 rfl rfl rfl ?_
   refine wl_f 93 0 (.tmp 33) (pt k1 0) (pt k1 0) ?_
   refine wl_l 83 (.tmp 34) (pt k1 0) (.agg #[.int .i64 (i2.i), i2.v]) (run_row (hS.rc k1 _ hkk) 83 0 2 _ rfl Try.underlying83 rfl zs83) ?_
   refine wl_nc (.tmp 31) k 0 rfl rfl rfl ?_
   refine wl_f 93 0 (.tmp 36) (pt k 0) (pt k 0) ?_
   refine wl_stx2 83 (.tmp 37) (.tmp 35) k 0 #[.int .i64 (i2.i), i2.v] _ [.int .i64 (i2.i), i2.v, pp (top C), pp l.p, pp q, .int .i64 (s), qh] (hS.rc k _ hqk) rfl rfl rfl rfl rfl zs83 (by rw [hi2v]; rfl) rfl rfl ?_
   intro w11 hT hA9
   replace hM := hM.mk ((Mk.refl D _).st hT (hS.dk hqk)) hS.nb
   replace M := M.st hT (Or.inl (hS.dk hqk))
   have hRd : ∀ b, ob i.v = some b → D b := fun b hb => (hS.ds hqk (Or.inl hb)).1
   have hRv := (hS.sv k _ hqk).1.kept (Mk.st1 hT) (fun b hb q => by have := (hS.ds hqk (Or.inl hb)).2.2; rw [q, hqk] at this; cases this)
   replace hS := hS.row hqk hkk hT hA9
   clear hT hA9
   obtain ⟨R1, eR1⟩ : ∃ X, X = ud R k ⟨(top C), l.p, q, (s), i2, qh, qc⟩ := ⟨_, rfl⟩
   rw [← eR1] at hS
   replace hkk : R1 k1 = some ⟨(top (Ls ++ (⟨k, i, s, true, l⟩ : Fr) :: C)), none, b.p, (s2), i2, hd2, (agg mb.sc ((T.ids .e) ++ i2 :: b.ids))⟩ := by rw [eR1, ud_ne _ _ ne_k_k1.symm]; exact hkk
   have hqk : R1 k = some ⟨(top C), l.p, q, (s), i2, qh, qc⟩ := by rw [eR1]; exact ud_same _ _ _
   refine w_nil (xn_then (w_seq ?_))
   refine w_any 10 [.inl (pt t 0), .inl (pt t 0), .inl (pt t 2), .inl (.map (some mb.m)), .inl (pt k 0), .inl (pt k 0), .inl (pt k 0), .inl (pt k 0), .inl (.int .i64 (i2.i)), .inl (pt k 0)] [] (by kernel_rfl) (by kernel_rfl) (by kernel_rfl) (by kernel_rfl) rfl (by kernel_rfl) (by kernel_rfl) late_nil ?_ ?_ ?_
   ·exact Ds.none rfl
   ·refine ea_cons ?_ (ea_cons ?_ (ea_cons ?_ (ea_cons ?_ (ea_cons ?_ (ea_cons ?_ (ea_cons ?_ (ea_cons ?_ (ea_cons ?_ (ea_cons ?_ (ea_nil))))))))))
    ·exact og_eq _ rfl (fun f wf hq hd K hK => go_run rfl (wo_mv (.tmp 0) (pt t 0) (fun _ => rfl) e0 (hK _ (Mo.refl _))))
    ·exact og_eq _ rfl (fun f wf hq hd K hK => go_run rfl (wo_nc (.tmp 38) t 0 rfl (hd 0 rfl) (hK _ (Mo.refl _))))
    ·exact og_eq _ rfl (fun f wf hq hd K hK => go_run rfl (wo_un (fun v => Instr.fieldAt 68 v 2) (.tmp 39) (pt t 0) (pt t 2) (fun _ => rfl) (hd 1 rfl) (by kernel_rfl) (hK _ (Mo.refl _))))
    ·exact og_eq _ rfl (fun f wf hq hd K hK => have hS := hS.mo hq; go_run rfl (wo_load 66 (.tmp 40) (pt t 2) (.map (some mb.m)) rfl (hd 2 rfl) (run_one hS.tr 66 2 rfl Try.underlying66 rfl) (hK _ (Mo.refl _))))
    ·exact og_eq _ rfl (fun f wf hq hd K hK => go_run rfl (wo_mv (.tmp 1) (pt k 0) (fun _ => rfl) e1 (hK _ (Mo.refl _))))
    ·exact og_eq _ rfl (fun f wf hq hd K hK => go_run rfl (wo_nc (.tmp 42) k 0 rfl (hd 4 rfl) (hK _ (Mo.refl _))))
    ·exact og_eq _ rfl (fun f wf hq hd K hK => go_run rfl (wo_un (fun v => Instr.fieldAt 93 v 0) (.tmp 43) (pt k 0) (pt k 0) (fun _ => rfl) (hd 5 rfl) (by kernel_rfl) (hK _ (Mo.refl _))))
    ·exact og_eq _ rfl (fun f wf hq hd K hK => go_run rfl (wo_un (fun v => Instr.fieldAt 83 v 0) (.tmp 44) (pt k 0) (pt k 0) (fun _ => rfl) (hd 6 rfl) (by kernel_rfl) (hK _ (Mo.refl _))))
    ·exact og_eq _ rfl (fun f wf hq hd K hK => have hS := hS.mo hq; go_run rfl (wo_load 2 (.tmp 45) (pt k 0) (.int .i64 (i2.i)) rfl (hd 7 rfl) (run_one (hS.rc k _ hqk) 2 0 rfl Try.underlying2 rfl) (hK _ (Mo.refl _))))
    ·exact og_eq _ rfl (fun f wf hq hd K hK => go_run rfl (wo_mv (.tmp 1) (pt k 0) (fun _ => rfl) e1 (hK _ (Mo.refl _))))
   intro kf12 w12 hq _ _
   replace hS := hS.mo hq
   replace hM := hM.mo hq
   replace hRv := hRv.mo hq
   replace M := M.trans hq
   clear hq
   refine wl_mup (.tmp 41) (.tmp 46) (.tmp 47) mb.m i2.i k hM (by omega) (hwr i2 hi2m) rfl rfl rfl rfl rfl rfl ?_
   intro w13 hM9 hK
   replace hM := hM9
   replace hRv := hRv.kept hK (fun b hb q => hS.nb (q ▸ hRd b hb))
   replace hS := hS.kept hK (fun j e q => hS.nb (by rw [← q]; exact e)) (fun b hb q => hmh (by rw [← q]; exact hb))
   replace M := M.tr hK (fun _ _ e => Or.inr e)
   clear hM9 hK
   refine w_nil (xn_then (w_seq (w_reg ?_)))
   refine wl_mv (.tmp 5) (pt k1 0) (fun _ => rfl) e5 rfl ?_
   refine wl_m (.tmp 48) (pt k1 0) ?_
   refine w_nil (xn_then (w_ret ?_))
   exact w_ret1 _ (pt k1 0) rfl rfl ⟨Ls, k1, i2, s2, b, (lk1), q, qh, qc, rfl, hpl, okL, hLd, ok1, by simp only [T.sz] at hcs ⊢; omega, by omega, by omega, by rw [eH]; omega, hq0, by rw [← eR1]; exact hS, hM, M, hRv⟩
end
end G
end Go.Proofs.Ythfemlhmnjfjiaa
/-
 The tree's take, where both sides are there.
-/
namespace Go.Proofs.Ythfemlhmnjfjiaa
open Go.RowKit
namespace G
section
variable {D : Nat → Prop} {w : World} {t : Nat} {mb : Hd} {R : Mp} {root : Option Nat} {lk : Int}
theorem hangT3 {C : Cx} {tr : T} {p u : Option Nat} (hS : HS D w t mb R root lk) (hC : RepC mb.sc R root C p) (hR : Rep mb.sc R u tr) (hn : (adC C ++ tr.ad).Nodup) :
  Calls Try.prog 47 #[pt t 0, pp (top C), .int .i64 (if sideC C then 1 else 0), pp tr.p] w fun e w' => e = .returned (.tuple #[]) ∧ (HS D w' t mb (hkR R (top C) (sideC C) tr.p) (hkO root (top C) tr.p) lk ∧ RepC mb.sc (hkR R (top C) (sideC C) tr.p) (hkO root (top C) tr.p) C tr.p ∧ Rep mb.sc (hkR R (top C) (sideC C) tr.p) (top C) tr) ∧ Mk D w w' := by
 obtain ⟨n1, n2, n3⟩ := nd_pos hn
 have hx : ∀ k, tr.p = some k → top C ≠ some k := fun k e q => n3 k (top_mem q) (T.pm e)
 refine (hang_n hS (top C) tr.p (sideC C) (fun k e => hR.rt e) (fun p e => by
   cases C with
   | nil => cases e
   | cons f C => cases e; obtain ⟨h9, c9, e9⟩ := hC.1; exact ⟨_, e9⟩) hx).mono fun e w' hq => ?_
 obtain ⟨he, hS', hM⟩ := hq
 refine ⟨he, ⟨hS', hC.hang n1 (fun j m q => hkR_ne (fun e => n3 j m (T.pm e)) q) (fun a q e hq => ?_), hR.up n2 (fun k r e hr => ?_) (fun j m q => hkR_ne q (fun e => n3 j (top_mem e) m))⟩, hM⟩
 ·rw [e]; exact hkR_par hq (fun q => hx a q e)
 ·rw [e]; exact hkR_self hr (hx k e)
def Do (D : Nat → Prop) (kn : Nat) (h v : Value) (j : Nat) : Prop := D j ∧ j ≠ kn ∧ ob h ≠ some j ∧ ob v ≠ some j
theorem over_drop {D0 : Nat → Prop} {R2 : Mp} {root2 : Option Nat} {w2 : World} {lk2 : Int} (hS0 : HS D0 w t mb R root lk) (hAp : Ap R) (hS : HS D w2 t mb R2 root2 lk2) {k kn : Nat} {r q : Rc} (e : R k = some r) (e2 : R kn = some q) (ne : k ≠ kn)
  (h2 : ∀ {j z}, R2 j = some z → ∃ a, R j = some a ∧ z.h = a.h ∧ (j ≠ k → z.i = a.i)) (h3 : ∀ {z}, R2 k = some z → z.i = q.i) (h4 : ∃ z, R2 kn = some z) : HS (Do D kn q.h r.i.v) w2 t mb (rm R2 kn) root2 lk2 ∧ Ap (rm R2 kn) := by
 obtain ⟨z4, h4⟩ := h4
 refine ⟨hS.less kn (fun j hj => hj.1) ⟨hS.dt, Ne.symm (hS.ne h4), fun x => (hS0.ds e2 (Or.inr x)).2.1 rfl, fun x => (hS0.ds e (Or.inl x)).2.1 rfl⟩ (fun {j z} hj hn => ?_) (fun {j z b} hj hn hb => ?_), ?_⟩
 ·obtain ⟨a, ha, _, _⟩ := h2 hj
  exact ⟨hS.dk hj, hn, fun x => (by rw [(hS0.ds e2 (Or.inr x)).2.2] at ha; cases ha), fun x => (by rw [(hS0.ds e (Or.inl x)).2.2] at ha; cases ha)⟩
 ·obtain ⟨a, ha, hh, hi⟩ := h2 hj
  refine ⟨(hS.ds hj hb).1, fun x => (by have := (hS.ds hj hb).2.2; rw [x, h4] at this; cases this), fun x => ?_, fun x => ?_⟩
  ·rcases hb with hb | hb
   ·by_cases hjk : j = k
    ·subst hjk; rw [h3 hj] at hb; exact hAp.hv e2 e2 x hb
    ·rw [hi hjk] at hb; exact hAp.hv e2 ha x hb
   ·rw [hh] at hb; exact hAp.hh e2 ha (Ne.symm hn) x hb
  ·rcases hb with hb | hb
   ·by_cases hjk : j = k
    ·subst hjk; rw [h3 hj] at hb; exact hAp.vv e e2 ne x hb
    ·rw [hi hjk] at hb; exact hAp.vv e ha (Ne.symm hjk) x hb
   ·rw [hh] at hb; exact hAp.hv ha e hb x
 ·refine hAp.perm2 (fun j => if j = k then kn else j) (fun j => j) (fun {a b x y} ha hb hab => ?_) (fun _ _ e => e) (fun {j z} hj => ?_)
  ·have n1 := (rm_or ha).1
   have n2 := (rm_or hb).1
   split at hab <;> split at hab <;> omega
  ·obtain ⟨_, hj⟩ := rm_or hj
   obtain ⟨a, ha, hh, hi⟩ := h2 hj
   by_cases hjk : j = k
   ·subst hjk; rw [if_pos rfl]; exact ⟨q, a, e2, ha, by rw [h3 hj], hh⟩
   ·rw [if_neg hjk]; exact ⟨a, a, ha, ha, by rw [hi hjk], hh⟩
theorem HS.shrink (h : HS D w t mb R root lk) {v : Value} (ht : ob v ≠ some t) (hr : ∀ {j q}, R j = some q → ob v ≠ some j) (hs : ∀ {j q b}, R j = some q → ob q.i.v = some b ∨ ob q.h = some b → ob v ≠ some b) : HS (fun j => D j ∧ ob v ≠ some j) w t mb R root lk :=
 ⟨h.tr, h.sc, fun b hb e => h.sd b hb e.1, h.rc, h.cb, h.sv, h.ss, h.mt, ⟨h.dt, ht⟩, fun hj => ⟨h.dk hj, hr hj⟩, fun hj hb => ⟨⟨(h.ds hj hb).1, hs hj hb⟩, (h.ds hj hb).2⟩, fun e => h.lt e.1, fun e => h.nb e.1, h.nc⟩
theorem csz_app (f : Fr) (C : Cx) : ∀ Ls : Cx, csz (Ls ++ f :: C) = csz Ls + 1 + f.o.sz + csz C
 | [] => by show 1 + f.o.sz + csz C = 0 + 1 + f.o.sz + csz C; omega
 | g :: Ls => by
  have := csz_app f C Ls
  show 1 + g.o.sz + csz (Ls ++ f :: C) = 1 + g.o.sz + csz Ls + 1 + f.o.sz + csz C
  omega
theorem okC_app {f : Fr} {C Ls : Cx} (h1 : okC Ls) (h2 : f.o.ok) (h3 : okC C) : okC (Ls ++ f :: C) := fun g hg => by
 rcases List.mem_append.1 hg with hg | hg
 ·exact h1 g hg
 ·rcases List.mem_cons.1 hg with rfl | hg
  ·exact h2
  ·exact h3 g hg
theorem take_A {C : Cx} {k lk0 rk : Nat} {i li ri : Py} {s ls rs : Int} {la lb ra rb : T} {f : Int → Option Nat} {n : Nat} (hT : RS D w t mb C (.n k i s (.n lk0 li ls la lb) (.n rk ri rs ra rb)) lk R root) (hM : OM w mb.m f n) (hn1 : n ≤ 2000) (hw : (Lit.int .i64 i.i).wf = true) (hfi : (f i.i).isSome = true) (ot : (T.n k i s (.n lk0 li ls la lb) (.n rk ri rs ra rb)).ok) (oc : okC C) (hb : csz C + (T.n k i s (.n lk0 li ls la lb) (.n rk ri rs ra rb)).sz ≤ 8000) (hlk : 0 ≤ lk ∧ lk + 20 + 10 * (T.n rk ri rs ra rb).ht + 8 * C.length ≤ 4000000000000000000) (hwr : ∀ j ∈ (T.n rk ri rs ra rb).ids, (Lit.int .i64 j.i).wf = true) (hmh : ob mb.h ≠ some mb.m) :
  Calls Try.prog 38 #[pt t 0, pt k 0] w fun e w' => e = .returned (.tuple #[]) ∧ ∃ (Ls : Cx) (kn : Nat) (i2 : Py) (s2 : Int) (b : T) (lk' : Int) (D' : Nat → Prop), plug Ls (.n kn i2 s2 .e b) = (.n rk ri rs ra rb) ∧ okC Ls ∧ (∀ g ∈ Ls, g.d = false) ∧ (T.n kn i2 s2 .e b).ok ∧ lk ≤ lk' ∧ lk' ≤ lk + 3 + Ls.length + 8 * (Ls.length + 1 + C.length) ∧ Ls.length + 1 ≤ (T.n rk ri rs ra rb).ht ∧ TS D' w' t mb [] (rebuild (Ls ++ (⟨k, i2, s, true, (.n lk0 li ls la lb)⟩ : Fr) :: C) b) lk' ∧ OM w' mb.m (fu (fu f i.i none) i2.i (some k)) (if (fu f i.i none i2.i).isSome then n - 1 else n - 1 + 1) ∧ Mk (fun j => D j ∨ j = mb.m) w w' ∧ (∀ j, D' j → D j) ∧ (∀ b, ob i.v = some b → ¬ D' b) ∧ Rw w' 10 i.v (i.vs.map V10.cells) := by
 obtain ⟨hS, hAp, hC, hR, hn⟩ := hT
 obtain ⟨hd1, hk⟩ := hR.1
 have h0c := csz_nn C
 have h0l := T.sz_nn la; have h0m := T.sz_nn lb
 refine w_enter 61 Try.func38 Try.ntmps38 rfl rfl ?_
 have M : Mk (fun j => D j ∨ j = mb.m) w w := Mk.refl _ _
 refine w_seq ?_
 refine w_any 9 [.inl (pt t 0), .inl (pt t 0), .inl (pt t 2), .inl (.map (some mb.m)), .inl (pt k 0), .inl (pt k 0), .inl (pt k 0), .inl (pt k 0), .inl (.int .i64 (i.i))] [] (by kernel_rfl) (by kernel_rfl) (by kernel_rfl) (by kernel_rfl) rfl (by kernel_rfl) (by kernel_rfl) late_nil ?_ ?_ ?_
 ·exact Ds.none rfl
 ·refine ea_cons ?_ (ea_cons ?_ (ea_cons ?_ (ea_cons ?_ (ea_cons ?_ (ea_cons ?_ (ea_cons ?_ (ea_cons ?_ (ea_cons ?_ (ea_nil)))))))))
  ·exact og_eq _ rfl (fun f wf hq hd K hK => go_run rfl (wo_mv (.tmp 0) (pt t 0) (fun _ => rfl) rfl (hK _ (Mo.refl _))))
  ·exact og_eq _ rfl (fun f wf hq hd K hK => go_run rfl (wo_nc (.tmp 6) t 0 rfl (hd 0 rfl) (hK _ (Mo.refl _))))
  ·exact og_eq _ rfl (fun f wf hq hd K hK => go_run rfl (wo_un (fun v => Instr.fieldAt 68 v 2) (.tmp 7) (pt t 0) (pt t 2) (fun _ => rfl) (hd 1 rfl) (by kernel_rfl) (hK _ (Mo.refl _))))
  ·exact og_eq _ rfl (fun f wf hq hd K hK => have hS := hS.mo hq; go_run rfl (wo_load 66 (.tmp 8) (pt t 2) (.map (some mb.m)) rfl (hd 2 rfl) (run_one hS.tr 66 2 rfl Try.underlying66 rfl) (hK _ (Mo.refl _))))
  ·exact og_eq _ rfl (fun f wf hq hd K hK => go_run rfl (wo_mv (.tmp 1) (pt k 0) (fun _ => rfl) rfl (hK _ (Mo.refl _))))
  ·exact og_eq _ rfl (fun f wf hq hd K hK => go_run rfl (wo_nc (.tmp 10) k 0 rfl (hd 4 rfl) (hK _ (Mo.refl _))))
  ·exact og_eq _ rfl (fun f wf hq hd K hK => go_run rfl (wo_un (fun v => Instr.fieldAt 93 v 0) (.tmp 11) (pt k 0) (pt k 0) (fun _ => rfl) (hd 5 rfl) (by kernel_rfl) (hK _ (Mo.refl _))))
  ·exact og_eq _ rfl (fun f wf hq hd K hK => go_run rfl (wo_un (fun v => Instr.fieldAt 83 v 0) (.tmp 12) (pt k 0) (pt k 0) (fun _ => rfl) (hd 6 rfl) (by kernel_rfl) (hK _ (Mo.refl _))))
  ·exact og_eq _ rfl (fun f wf hq hd K hK => have hS := hS.mo hq; go_run rfl (wo_load 2 (.tmp 13) (pt k 0) (.int .i64 (i.i)) rfl (hd 7 rfl) (run_one (hS.rc k _ hk) 2 0 rfl Try.underlying2 rfl) (hK _ (Mo.refl _))))
 intro kf1 w1 hq _ _
 replace hS := hS.mo hq
 replace hM := hM.mo hq
 replace M := M.trans hq
 clear hq
 refine wl_del (.tmp 9) (.tmp 14) mb.m i.i hM hfi hw rfl rfl rfl rfl rfl ?_
 intro w2 hM9 hK
 replace hM := hM9
 replace hS := hS.kept hK (fun j e q => hS.nb (by rw [← q]; exact e)) (fun b hb q => hmh (by rw [← q]; exact hb))
 replace M := M.tr hK (fun _ _ e => Or.inr e)
 clear hM9 hK
 refine w_nil (xn_then (w_seq (w_seq (w_reg ?_))))
 refine wl_m (.tmp 1) (pt k 0) ?_
 refine wl_nc (.tmp 15) k 0 rfl rfl rfl ?_
 refine wl_f 93 2 (.tmp 16) (pt k 0) (pt k 3) ?_
 refine wl_bin (fun x y => Instr.indexAt 91 x y) (.tmp 17) (.const (.int .i64 (0))) (pt k 3) (.int .i64 (0)) (pt k 3) (fun _ => rfl) rfl rfl (by kernel_rfl) rfl ?_
 refine wl_l 65 (.tmp 18) (pt k 3) (pt lk0 0) (run_one (hS.rc k _ hk) 65 3 rfl Try.underlying65 rfl) ?_
 refine wl_b .neq 65 (.tmp 19) (.const (.pointer none)) (pt lk0 0) (pp none) (.bool true) (neP (some lk0) _ _ _) ?_
 refine wl_m (.tmp 20) (.bool true) ?_
 refine wl_m (.tmp 1) (pt k 0) ?_
 refine wl_nc (.tmp 22) k 0 rfl rfl rfl ?_
 refine wl_f 93 2 (.tmp 23) (pt k 0) (pt k 3) ?_
 refine wl_bin (fun x y => Instr.indexAt 91 x y) (.tmp 24) (.const (.int .i64 (1))) (pt k 3) (.int .i64 (1)) (pt k 4) (fun _ => rfl) rfl rfl (by kernel_rfl) rfl ?_
 refine wl_l 65 (.tmp 25) (pt k 4) (pt rk 0) (run_one (hS.rc k _ hk) 65 4 rfl Try.underlying65 rfl) ?_
 refine wl_b .neq 65 (.tmp 26) (.const (.pointer none)) (pt rk 0) (pp none) (.bool true) (neP (some rk) _ _ _) ?_
 refine wl_pick (.tmp 21) (.tmp 27) (.const (.bool false)) true (.bool true) (fun _ => rfl) rfl rfl rfl ?_
 refine w_nil (xn_then (w_condT rfl (w_reg ?_)))
 refine wl_m (.tmp 0) (pt t 0) ?_
 refine wl_m (.tmp 1) (pt k 0) ?_
 refine wl_callx 54 [(.tmp 29), (.tmp 30)] _ [pt t 0, pt k 0] rfl rfl (fun _ _ => by kernel_rfl) (over_n ⟨hS, hAp, hC, hR, hn⟩ hM (by omega) hwr ot (by omega) hmh) rfl ?_
 rintro v9 w3 ⟨Ls, kn, i2, s2, b, lk3, q, qh, qc, ev, hpl, okL, hLd, hok, hsz, hk3, hk4, hlt, hq0, hS9, hM9, hM8, hRv⟩
 refine ⟨_, ev, ?_⟩
 clear ev
 have hS0 := hS
 replace hM := hM9
 replace M := M.same hM8
 clear hM9 hM8
 obtain ⟨_, _, hCz, hRz, hnz⟩ := RS.at2 ((⟨k, i, s, true, (.n lk0 li ls la lb)⟩ : Fr) :: C) Ls (tr1 := .n kn i2 s2 .e b) (R := R) (root := root) (by rw [hpl]; exact (RS.dn (f := (⟨k, i, s, true, (.n lk0 li ls la lb)⟩ : Fr)) (C := C) (tr := (.n rk ri rs ra rb)) ⟨hS, hAp, hC, hR, hn⟩).1)
 obtain ⟨⟨hd3, hkn0⟩, _, hbz⟩ := hRz
 have hkm := mem_deep Ls (⟨k, i, s, true, (.n lk0 li ls la lb)⟩ : Fr) C
 have nz := nd_pos hnz
 have hkkn : k ≠ kn := fun e => nz.2.2 k hkm (by rw [e]; unfold T.ad; simp)
 have hkb : k ∉ b.ad := fun m => nz.2.2 k hkm (by unfold T.ad; simp [m])
 obtain ⟨R9, eR9⟩ : ∃ X, X = ud R k ⟨top C, (T.n lk0 li ls la lb).p, q, s, i2, qh, qc⟩ := ⟨_, rfl⟩
 rw [← eR9] at hS9
 have hC9 : RepC mb.sc R9 root (Ls ++ (⟨k, i2, s, true, (.n lk0 li ls la lb)⟩ : Fr) :: C) (some kn) := by rw [eR9]; exact repC_setid (j := i2) (d := true) (o := (.n lk0 li ls la lb)) hq0 hCz nz.1
 have hkn : R9 kn = some ⟨top (Ls ++ (⟨k, i2, s, true, (.n lk0 li ls la lb)⟩ : Fr) :: C), none, b.p, s2, i2, hd3, agg mb.sc ((T.ids .e) ++ i2 :: b.ids)⟩ := by rw [eR9, ud_ne _ _ (Ne.symm hkkn), ← top_app Ls (⟨k, i, s, true, (.n lk0 li ls la lb)⟩ : Fr) (⟨k, i2, s, true, (.n lk0 li ls la lb)⟩ : Fr) C rfl]; exact hkn0
 have hb9 : Rep mb.sc R9 (some kn) b := by rw [eR9]; exact hbz.ud hkb
 have hn9 : (adC (Ls ++ (⟨k, i2, s, true, (.n lk0 li ls la lb)⟩ : Fr) :: C) ++ (T.n kn i2 s2 .e b).ad).Nodup := by rw [← adC_setid k i i2 s true (.n lk0 li ls la lb) C Ls]; exact hnz
 have oc9 := okC_app (f := (⟨k, i2, s, true, (.n lk0 li ls la lb)⟩ : Fr)) okL ot.2.1 oc
 have hcz := csz_app (⟨k, i2, s, true, (.n lk0 li ls la lb)⟩ : Fr) C Ls
 have hln : (Ls ++ (⟨k, i2, s, true, (.n lk0 li ls la lb)⟩ : Fr) :: C).length = Ls.length + 1 + C.length := by simp; omega
 generalize hC9e : Ls ++ (⟨k, i2, s, true, (.n lk0 li ls la lb)⟩ : Fr) :: C = C9 at *
 replace hS9 := hS9.shrink (v := i.v) (fun e => (hS0.ds hq0 (Or.inl e)).2.1 rfl) (fun {j z} hj e => by rw [eR9] at hj; have h9 := (hS0.ds hq0 (Or.inl e)).2.2; rcases ud_or hj with ⟨rfl, _⟩ | ⟨_, hj⟩; rw [hq0] at h9; cases h9; rw [hj] at h9; cases h9) (fun {j z b9} hj hb9 e => by rw [eR9] at hj; rcases ud_or hj with ⟨rfl, rfl⟩ | ⟨hne, hj⟩; rcases hb9 with hb9 | hb9; exact hAp.vv hq0 hkn0 hkkn e hb9; exact hAp.hv hq0 hq0 hb9 e; rcases hb9 with hb9 | hb9; exact hAp.vv hq0 hj (Ne.symm hne) e hb9; exact hAp.hv hj hq0 hb9 e)
 replace hS := hS9
 clear hS9 hCz hbz hnz nz
 have h0b := T.sz_nn b
 simp only [T.sz] at hb hsz hcz
 refine wl_m (.tmp 31) (pt kn 0) ?_
 refine w_nil (xn_then (w_seq (w_reg ?_)))
 refine wl_m (.tmp 1) (pt kn 0) ?_
 refine wl_nc (.tmp 32) kn 0 rfl rfl rfl ?_
 refine wl_f 93 2 (.tmp 33) (pt kn 0) (pt kn 3) ?_
 refine wl_bin (fun x y => Instr.indexAt 91 x y) (.tmp 34) (.const (.int .i64 (0))) (pt kn 3) (.int .i64 (0)) (pt kn 3) (fun _ => rfl) rfl rfl (by kernel_rfl) rfl ?_
 refine wl_l 65 (.tmp 35) (pt kn 3) (pp none) (run_one (hS.rc kn _ hkn) 65 3 rfl Try.underlying65 rfl) ?_
 refine wl_m (.tmp 36) (pp none) ?_
 refine w_nil (xn_then (w_seq (w_seq (w_reg ?_))))
 refine wl_m (.tmp 4) (pp none) ?_
 refine wl_b .eql 65 (.tmp 37) (.const (.pointer none)) (pp none) (pp none) (.bool true) (eqP none _ _ _) ?_
 refine w_nil (xn_then (w_condT rfl (w_reg ?_)))
 refine wl_m (.tmp 1) (pt kn 0) ?_
 refine wl_nc (.tmp 39) kn 0 rfl rfl rfl ?_
 refine wl_f 93 2 (.tmp 40) (pt kn 0) (pt kn 3) ?_
 refine wl_bin (fun x y => Instr.indexAt 91 x y) (.tmp 41) (.const (.int .i64 (1))) (pt kn 3) (.int .i64 (1)) (pt kn 4) (fun _ => rfl) rfl rfl (by kernel_rfl) rfl ?_
 refine wl_l 65 (.tmp 42) (pt kn 4) (pp b.p) (run_one (hS.rc kn _ hkn) 65 4 rfl Try.underlying65 rfl) ?_
 refine wl_m (.tmp 43) (pp b.p) ?_
 refine w_nil (xn_then (w_seq (w_reg ?_)))
 refine wl_m (.tmp 0) (pt t 0) ?_
 refine wl_m (.tmp 4) (pp b.p) ?_
 refine wl_bsl [(0, (.tmp 45))] [pp b.p] 1 rfl rfl (bs1 b.p) rfl ?_
 intro g1 w4 hk hz hq Q1
 have nd_g1 : ¬ (fun j => D j ∧ ob i.v ≠ some j) g1 := fun e => by have := hS.lt e; omega
 replace hS := hS.mo hq
 replace hM := hM.mo hq
 replace hRv := hRv.mo hq
 replace M := M.trans hq
 clear hk hz hq
 refine wl_callg 34 [(.tmp 44), (.tmp 46)] _ [pt t 0, .slice (some ⟨g1, 0, none⟩) 1 1] (.tuple #[]) rfl rfl (fun _ _ => by kernel_rfl) (look_n [b.p] g1 hS Q1 nd_g1 (by simp only [List.length_cons, List.length_nil]; omega)) rfl ?_
 intro w5 hF
 have hc1 := cnt_le [b.p]
 simp only [List.length_cons, List.length_nil] at hc1
 obtain ⟨hS2, hM2⟩ := hF
 replace hS := hS2
 replace M := M.tr hM2 (fun _ _ e => Or.inl e.1)
 replace hM := hM.mk hM2 hS.nb
 replace hRv := hRv.kept hM2 (fun b hb e => e.2 hb)
 clear hS2 hM2 Q1 nd_g1
 refine w_nil (xn_then (w_seq (w_reg ?_)))
 refine wl_m (.tmp 1) (pt kn 0) ?_
 refine wl_nc (.tmp 48) kn 0 rfl rfl rfl ?_
 refine wl_f 93 1 (.tmp 49) (pt kn 0) (pt kn 2) ?_
 refine wl_l 65 (.tmp 50) (pt kn 2) (pp ((top C9))) (run_one (hS.rc kn _ hkn) 65 2 rfl Try.underlying65 rfl) ?_
 refine wl_m (.tmp 51) (pp ((top C9))) ?_
 refine w_nil (xn_then (w_seq (w_reg ?_)))
 refine wl_m (.tmp 0) (pt t 0) ?_
 refine wl_m (.tmp 5) (pp ((top C9))) ?_
 refine wl_m (.tmp 1) (pt kn 0) ?_
 refine wl_call 53 [(.tmp 54)] _ [pt kn 0] (.int .i64 (if sideC C9 then 1 else 0)) rfl rfl (fun _ _ => by kernel_rfl) (side_c hS hC9 hkn (fun m => (nd_pos hn9).2.2 _ m (by unfold T.ad; simp))) rfl ?_
 intro w6 hq
 replace hS := hS.mo hq
 replace hM := hM.mo hq
 replace hRv := hRv.mo hq
 replace M := M.trans hq
 clear hq
 refine wl_m (.tmp 4) (pp b.p) ?_
 have hnb := hS.nb
 refine wl_callg 47 [(.tmp 52), (.tmp 53), (.tmp 55), (.tmp 56)] _ [pt t 0, pp ((top C9)), .int .i64 (if sideC C9 then 1 else 0), pp b.p] (.tuple #[]) rfl rfl (fun _ _ => by kernel_rfl) (hangT3 (tr := b) hS hC9 hb9 (by have := hn9; simp only [T.ad, List.nil_append] at this; exact nd_drop this)) rfl ?_
 intro w7 hF
 obtain ⟨⟨hS2, hC2, hR2⟩, hM2⟩ := hF
 replace M := M.tr hM2 (fun _ _ e => Or.inl e.1)
 replace hM := hM.mk hM2 hS.nb
 replace hRv := hRv.kept hM2 (fun b hb e => e.2 hb)
 clear hM2
 have h2 : ∀ {j z}, hkR R9 (top C9) (sideC C9) b.p j = some z → ∃ a, R j = some a ∧ z.h = a.h ∧ (j ≠ k → z.i = a.i) := fun {j z} hj => by
  obtain ⟨r1, h1, _, h5, h6, _⟩ := hkR_of hj
  rw [eR9] at h1
  rcases ud_or h1 with ⟨rfl, rfl⟩ | ⟨hne, h1⟩
  ·exact ⟨_, hq0, h6, fun h => absurd rfl h⟩
  ·exact ⟨r1, h1, h6, fun _ => h5⟩
 have h3 : ∀ {z}, hkR R9 (top C9) (sideC C9) b.p k = some z → z.i = i2 := fun {z} hj => by
  obtain ⟨r1, h1, _, h5, _, _⟩ := hkR_of hj
  rw [eR9, ud_same] at h1
  cases h1; exact h5
 have h4 : ∃ z, hkR R9 (top C9) (sideC C9) b.p kn = some z := by obtain ⟨z, hz, _⟩ := hkR_to (a := top C9) (x := b.p) (d := sideC C9) hkn; exact ⟨z, hz⟩
 obtain ⟨hS3, hAp3⟩ := over_drop hS0 hAp hS2 hq0 hkn0 hkkn h2 h3 h4
 have hknc : kn ∉ adC C9 := fun m => (nd_pos hn9).2.2 _ m (by unfold T.ad; simp)
 have hknb : kn ∉ b.ad := fun m => by have h9 := (nd_pos hn9).2.1; unfold T.ad at h9; exact (List.nodup_cons.1 h9).1 (List.mem_append.2 (Or.inr m))
 have hT9 : RS _ _ t mb C9 b _ _ _ := ⟨hS3, hAp3, RepC.same (fun _ m => rm_ne (fun q => hknc (q ▸ m))) hC2, Rep.same (fun _ m => rm_ne (fun q => hknb (q ▸ m))) hR2, by have := hn9; simp only [T.ad, List.nil_append] at this; exact nd_drop this⟩
 refine w_nil (xn_then (w_reg ?_))
 refine wl_m (.tmp 0) (pt t 0) ?_
 refine wl_m (.tmp 5) (pp ((top C9))) ?_
 refine wl_callg 48 [(.tmp 58), (.tmp 59)] _ [pt t 0, pp ((top C9))] (.tuple #[]) rfl rfl (fun _ _ => by kernel_rfl) (settle_n ⟨_, _, hT9⟩ hok.2.2 oc9 (by omega) (by omega)) rfl ?_
 intro w8 hF
 obtain ⟨lk2, hk1, hk2, hT2, hM2⟩ := hF
 replace hM := hM.mk hM2 (fun e => hnb e.1)
 replace M := M.tr hM2 (fun _ _ e => Or.inl e.1.1)
 replace hRv := hRv.kept hM2 (fun b hb e => e.2.2.2 hb)
 clear hM2
 refine w_nil ?_
 exact w_end0 rfl ⟨rfl, Ls, kn, i2, s2, b, lk2, Do (fun j => D j ∧ ob i.v ≠ some j) kn hd3 i.v, hpl, okL, hLd, hok, by omega, by omega, hlt, by rw [hC9e]; exact hT2, hM, M, fun j e => e.1.1, fun b hb e => e.2.2.2 hb, hRv⟩
end
end G
end Go.Proofs.Ythfemlhmnjfjiaa
/-
 Ids with their records' blocks; what the map says of a tree.
-/
namespace Go.Proofs.Ythfemlhmnjfjiaa
open Go.RowKit
namespace G
def T.kv : T → List (Int × Nat)
 | .e => []
 | .n k i _ l r => l.kv ++ (i.i, k) :: r.kv
theorem T.kv_ids : ∀ tr : T, tr.kv.map (·.1) = tr.ids.map (·.i)
 | .e => rfl
 | .n _ _ _ l r => by unfold T.kv T.ids; simp [T.kv_ids l, T.kv_ids r]
theorem lightL_kv (k : Nat) (i : Py) (l r : T) : (lightL k i l r).kv = l.kv ++ (i.i, k) :: r.kv := by
 unfold lightL
 cases l with
 | e => rfl
 | n kk ii ss a b =>
  cases hd : decide (2 * (a.sz + 1) ≤ b.sz + 1) <;> cases b <;> simp [hd, T.kv]
theorem lightR_kv (k : Nat) (i : Py) (l r : T) : (lightR k i l r).kv = l.kv ++ (i.i, k) :: r.kv := by
 unfold lightR
 cases r with
 | e => rfl
 | n kk ii ss b a =>
  cases hd : decide (2 * (a.sz + 1) ≤ b.sz + 1) <;> cases b <;> simp [hd, T.kv]
theorem bal_kv (k : Nat) (i : Py) (l r : T) : (bal k i l r).kv = l.kv ++ (i.i, k) :: r.kv := by
 unfold bal
 split
 ·exact lightL_kv k i l r
 ·split
  ·exact lightR_kv k i l r
  ·rfl
def preC : Cx → List (Int × Nat)
 | [] => []
 | f :: C => preC C ++ (if f.d then f.o.kv ++ [(f.i.i, f.k)] else [])
def posC : Cx → List (Int × Nat)
 | [] => []
 | f :: C => (if f.d then [] else (f.i.i, f.k) :: f.o.kv) ++ posC C
theorem plug_kv : ∀ (C : Cx) (tr : T), (plug C tr).kv = preC C ++ tr.kv ++ posC C
 | [], tr => by show tr.kv = [] ++ tr.kv ++ []; simp
 | f :: C, tr => by
  show (plug C (f.jn tr)).kv = _
  rw [plug_kv C]
  unfold Fr.jn
  show _ = (preC C ++ (if f.d then f.o.kv ++ [(f.i.i, f.k)] else [])) ++ tr.kv ++ ((if f.d then [] else (f.i.i, f.k) :: f.o.kv) ++ posC C)
  cases f.d <;> simp [T.kv]
theorem rebuild_kv : ∀ (C : Cx) (tr : T), (rebuild C tr).kv = preC C ++ tr.kv ++ posC C
 | [], tr => by show tr.kv = [] ++ tr.kv ++ []; simp
 | f :: C, tr => by
  show (rebuild C (balF f tr)).kv = _
  rw [rebuild_kv C]
  unfold balF
  show _ = (preC C ++ (if f.d then f.o.kv ++ [(f.i.i, f.k)] else [])) ++ tr.kv ++ ((if f.d then [] else (f.i.i, f.k) :: f.o.kv) ++ posC C)
  cases f.d <;> simp [bal_kv]
theorem T.kv_len (tr : T) : (tr.kv.length : Int) = tr.sz := by
 have h := congrArg List.length (T.kv_ids tr)
 rw [T.sz_ids]
 simp only [List.length_map] at h
 rw [h]
theorem pre_len : ∀ C : Cx, ((preC C).length : Int) = ix C
 | [] => rfl
 | f :: C => by
  have := pre_len C
  have h2 := T.kv_len f.o
  show ((preC C ++ (if f.d then f.o.kv ++ [(f.i.i, f.k)] else [])).length : Int) = (if f.d then f.o.sz + 1 else 0) + ix C
  cases f.d <;> simp <;> omega
def adr (l : List (Int × Nat)) (id : Int) : Option Nat := l.lookup id
theorem adr_mid {A B : List (Int × Nat)} {id : Int} {k : Nat} (h : id ∉ A.map (·.1)) : adr (A ++ (id, k) :: B) id = some k := by
 unfold adr
 induction A with
 | nil => simp
 | cons x A ih =>
  simp only [List.map_cons, List.mem_cons, not_or] at h
  have : (id == x.1) = false := beq_eq_false_iff_ne.2 h.1
  show List.lookup id (x :: (A ++ (id, k) :: B)) = some k
  rw [List.lookup_cons, this]
  exact ih h.2
theorem adr_off {A B : List (Int × Nat)} {id j : Int} {k : Nat} (h : j ≠ id) : adr (A ++ (id, k) :: B) j = adr (A ++ B) j := by
 unfold adr
 induction A with
 | nil =>
  have : (j == id) = false := beq_eq_false_iff_ne.2 h
  show List.lookup j ((id, k) :: B) = List.lookup j B
  rw [List.lookup_cons, this]
 | cons x A ih =>
  show List.lookup j (x :: (A ++ (id, k) :: B)) = List.lookup j (x :: (A ++ B))
  rw [List.lookup_cons, List.lookup_cons, ih]
theorem adr_none {l : List (Int × Nat)} {id : Int} (h : id ∉ l.map (·.1)) : adr l id = none := by
 unfold adr
 induction l with
 | nil => rfl
 | cons x l ih =>
  simp only [List.map_cons, List.mem_cons, not_or] at h
  have : (id == x.1) = false := beq_eq_false_iff_ne.2 h.1
  rw [List.lookup_cons, this]
  exact ih h.2
theorem adr_some {l : List (Int × Nat)} {id : Int} {k : Nat} (h : adr l id = some k) : (id, k) ∈ l := by
 unfold adr at h
 induction l with
 | nil => cases h
 | cons x l ih =>
  rw [List.lookup_cons] at h
  by_cases e : id = x.1
  ·subst e
   simp at h
   subst h
   simp
  ·rw [beq_eq_false_iff_ne.2 e] at h
   exact List.mem_cons_of_mem _ (ih h)
theorem adr_is {l : List (Int × Nat)} {id : Int} : (adr l id).isSome = true ↔ id ∈ l.map (·.1) := by
 constructor
 ·intro h
  obtain ⟨k, hk⟩ := Option.isSome_iff_exists.1 h
  exact List.mem_map.2 ⟨_, adr_some hk, rfl⟩
 ·intro h
  cases hq : adr l id with
  | some k => rfl
  | none =>
   exfalso
   unfold adr at hq
   induction l with
   | nil => cases h
   | cons x l ih =>
    rw [List.lookup_cons] at hq
    by_cases e : id = x.1
    ·rw [beq_iff_eq.2 e] at hq; cases hq
    ·rw [beq_eq_false_iff_ne.2 e] at hq
     simp only [List.map_cons, List.mem_cons] at h
     exact ih (h.resolve_left e) hq
theorem fu_ins {A B : List (Int × Nat)} {id : Int} {k : Nat} (h : id ∉ A.map (·.1)) : fu (adr (A ++ B)) id (some k) = adr (A ++ (id, k) :: B) := by
 funext j
 by_cases e : j = id
 ·subst e; rw [fu_same, adr_mid h]
 ·rw [fu_ne _ _ e, adr_off e]
theorem fu_del {A B : List (Int × Nat)} {id : Int} {k : Nat} (h : id ∉ (A ++ B).map (·.1)) : fu (adr (A ++ (id, k) :: B)) id none = adr (A ++ B) := by
 funext j
 by_cases e : j = id
 ·subst e; rw [fu_same, adr_none h]
 ·rw [fu_ne _ _ e, adr_off e]
theorem plug_app : ∀ (A B : Cx) (tr : T), plug (A ++ B) tr = plug B (plug A tr)
 | [], _, _ => rfl
 | f :: A, B, tr => plug_app A B (f.jn tr)
theorem kv_focus : ∀ (tr : T) {id : Int} {k : Nat}, (id, k) ∈ tr.kv → ∃ C y s l r, plug C (.n k y s l r) = tr ∧ y.i = id
 | .e, _, _, h => by cases h
 | .n q i s l r, id, k, h => by
  unfold T.kv at h
  rcases List.mem_append.1 h with h | h
  ·obtain ⟨C, y, s', l', r', e, e2⟩ := kv_focus l h
   refine ⟨C ++ [⟨q, i, s, false, r⟩], y, s', l', r', ?_, e2⟩
   rw [plug_app, e]
   rfl
  ·rcases List.mem_cons.1 h with h | h
   ·cases h; exact ⟨[], i, s, l, r, rfl, rfl⟩
   ·obtain ⟨C, y, s', l', r', e, e2⟩ := kv_focus r h
    refine ⟨C ++ [⟨q, i, s, true, l⟩], y, s', l', r', ?_, e2⟩
    rw [plug_app, e]
    rfl
theorem plug_okC : ∀ (C : Cx) {tr : T}, (plug C tr).ok → okC C ∧ tr.ok
 | [], _, h => ⟨fun _ m => (by cases m), h⟩
 | f :: C, tr, h => by
  obtain ⟨h1, h2⟩ := plug_okC C (tr := f.jn tr) h
  unfold Fr.jn at h2
  cases hd : f.d with
  | true =>
   rw [hd] at h2
   exact ⟨fun g m => by rcases List.mem_cons.1 m with rfl | m; exact h2.2.1; exact h1 g m, h2.2.2⟩
  | false =>
   rw [hd] at h2
   exact ⟨fun g m => by rcases List.mem_cons.1 m with rfl | m; exact h2.2.2; exact h1 g m, h2.2.1⟩
theorem plug_sz : ∀ (C : Cx) (tr : T), (plug C tr).sz = csz C + tr.sz
 | [], tr => by show tr.sz = 0 + tr.sz; omega
 | f :: C, tr => by
  show (plug C (f.jn tr)).sz = 1 + f.o.sz + csz C + tr.sz
  rw [plug_sz C]
  unfold Fr.jn
  cases f.d <;> simp [T.sz] <;> omega
theorem plug_ht : ∀ (C : Cx) (tr : T), C.length + tr.ht ≤ (plug C tr).ht
 | [], tr => by show 0 + tr.ht ≤ tr.ht; omega
 | f :: C, tr => by
  have := plug_ht C (f.jn tr)
  show (f :: C).length + tr.ht ≤ (plug C (f.jn tr)).ht
  have h2 : 1 + tr.ht ≤ (f.jn tr).ht := by
   unfold Fr.jn
   cases f.d
   ·show 1 + tr.ht ≤ 1 + max tr.ht f.o.ht; omega
   ·show 1 + tr.ht ≤ 1 + max f.o.ht tr.ht; omega
  simp only [List.length_cons]
  omega
theorem T.ht_le : ∀ tr : T, (tr.ht : Int) ≤ tr.sz
 | .e => Int.le_refl 0
 | .n _ _ _ l r => by
  have := T.ht_le l; have := T.ht_le r
  have := T.sz_nn l; have := T.sz_nn r
  unfold T.ht T.sz
  omega
end G
end Go.Proofs.Ythfemlhmnjfjiaa
/-
 The tree with its map; a row put in, a row taken out.
-/
namespace Go.Proofs.Ythfemlhmnjfjiaa
open Go.RowKit
namespace G
structure FT (D : Nat → Prop) (w : World) (t : Nat) (mb : Hd) (tr : T) (lk : Int) : Prop where
 ts : TS D w t mb [] tr lk
 om : OM w mb.m (adr tr.kv) tr.kv.length
 ok : tr.ok
 nd : (tr.ids.map (·.i)).Nodup
 rg : ∀ i ∈ tr.ids.map (·.i), 1 ≤ i ∧ i ≤ 9007199254740992
 le : tr.sz ≤ 1024
 l0 : 0 ≤ lk
 hm : ob mb.h ≠ some mb.m
theorem FT.mo {D : Nat → Prop} {w w' : World} {t : Nat} {mb : Hd} {tr : T} {lk : Int} (h : FT D w t mb tr lk) (m : Mo w w') : FT D w' t mb tr lk := ⟨h.ts.mo m, h.om.mo m, h.ok, h.nd, h.rg, h.le, h.l0, h.hm⟩
def Ins (tr : T) (at0 : Int) (y : Py) (kn : Nat) (tr' : T) : Prop := ∃ C, plug C .e = tr ∧ ix C = at0 ∧ tr' = rebuild C (.n kn y 1 .e .e)
def Del (tr : T) (i : Py) (at0 : Int) (tr' : T) : Prop := ∃ C k s l r, plug C (.n k i s l r) = tr ∧ at0 = l.sz + ix C ∧
 ((l = .e ∧ tr' = rebuild C r) ∨ (r = .e ∧ tr' = rebuild C l) ∨ l ≠ .e ∧ ∃ Ls kn i2 s2 b, plug Ls (.n kn i2 s2 .e b) = r ∧ (∀ g ∈ Ls, g.d = false) ∧ tr' = rebuild (Ls ++ (⟨k, i2, s, true, l⟩ : Fr) :: C) b)
theorem kv_nd {l : List (Int × Nat)} {A B : List (Int × Nat)} {id : Int} {k : Nat} (h : l = A ++ (id, k) :: B) (hn : (l.map (·.1)).Nodup) : id ∉ A.map (·.1) ∧ id ∉ (A ++ B).map (·.1) ∧ ((A ++ B).map (·.1)).Nodup := by
 subst h
 simp only [List.map_append, List.map_cons] at hn ⊢
 have h2 := List.perm_middle.nodup_iff.1 hn
 have h3 := List.nodup_cons.1 h2
 exact ⟨fun m => h3.1 (by simp [m]), by simpa using h3.1, h3.2⟩
theorem nd_ins {A B : List Int} {id : Int} (h : (A ++ B).Nodup) (hi : id ∉ A ++ B) : (A ++ id :: B).Nodup := List.perm_middle.nodup_iff.2 (List.nodup_cons.2 ⟨hi, h⟩)
section
variable {D : Nat → Prop} {w : World} {t : Nat} {mb : Hd} {lk : Int}
theorem put_f {tr : T} {at0 yi : Int} {yp : Option Addr} {yn yc : Nat} {yvs : List V10} (h : FT D w t mb tr lk) (hid : yi ∉ tr.ids.map (·.i)) (hr1 : 1 ≤ yi) (hr2 : yi ≤ 9007199254740992) (hsz : tr.sz < 1024) (h0 : 0 ≤ at0) (h1 : at0 ≤ tr.sz) (hlk : lk ≤ 3000000000000000000)
  (hyw : Rw w 10 (.slice yp yn yc) (yvs.map V10.cells) ∧ yvs.length = mb.sc.length ∧ ∀ x ∈ yvs, x.n.ok) (hyD : ∀ b, ob (.slice yp yn yc) = some b → ¬ D b ∧ b ≠ mb.m ∧ ob mb.h ≠ some b) :
  Calls Try.prog 31 #[pt t 0, .int .i64 at0, .agg #[.int .i64 yi, .slice yp yn yc]] w fun e w' => e = .returned (.tuple #[]) ∧ ∃ kn tr' lk' D', Ins tr at0 ⟨yi, .slice yp yn yc, yvs⟩ kn tr' ∧ FT D' w' t mb tr' lk' ∧ w.heap.size ≤ kn ∧ lk < lk' ∧ lk' ≤ lk + 10 * tr.ht + 8 ∧ Mk (fun j => D j ∨ j = mb.m ∨ ob (.slice yp yn yc) = some j) w w' ∧ ∀ j, D' j → D j ∨ w.heap.size ≤ j ∨ ob (.slice yp yn yc) = some j := by
 have hh := tr.ht_le
 have hl := tr.kv_len
 have hl0 := h.l0
 have hno : adr tr.kv yi = none := adr_none (by rw [T.kv_ids]; exact hid)
 obtain ⟨R, root, hRS⟩ := h.ts
 refine (put_n hRS h.om (by rw [hno]; rfl) (by omega) (WalkArith.wf_i64 ⟨by omega, by omega⟩) h.ok h0 h1 (by omega) ⟨hl0, by omega⟩ (by omega) hyw (Fre.of hRS.hs hyD) (fun b hb => (hyD b hb).1) h.hm).mono fun e w' hq => ?_
 obtain ⟨he, C, kn, lk', D', hp, hix, hoc, hkn, hk1, hk2, hk3, hT, hM, hK, hD⟩ := hq
 refine ⟨he, kn, rebuild C (.n kn ⟨yi, .slice yp yn yc, yvs⟩ 1 .e .e), lk', D', ⟨C, hp, hix, rfl⟩, ?_, hkn, by omega, by omega, hK, hD⟩
 have e1 : tr.kv = preC C ++ posC C := by rw [← hp, plug_kv]; simp [T.kv]
 have e2 : (rebuild C (.n kn ⟨yi, .slice yp yn yc, yvs⟩ 1 .e .e)).kv = preC C ++ (yi, kn) :: posC C := by rw [rebuild_kv]; simp [T.kv]
 have ei : tr.ids.map (·.i) = (preC C).map (·.1) ++ (posC C).map (·.1) := by rw [← T.kv_ids, e1, List.map_append]
 have ei2 : (rebuild C (.n kn ⟨yi, .slice yp yn yc, yvs⟩ 1 .e .e)).ids.map (·.i) = (preC C).map (·.1) ++ yi :: (posC C).map (·.1) := by rw [← T.kv_ids, e2, List.map_append]; rfl
 refine ⟨hT, ?_, rebuild_ok C _ hoc ⟨by simp [T.sz], trivial, trivial⟩, ?_, ?_, ?_, by omega, h.hm⟩
 ·rw [e2, ← fu_ins (by intro m; exact hid (by rw [ei]; simp only [List.mem_append]; exact Or.inl m)), ← e1]
  have : (preC C ++ (yi, kn) :: posC C).length = tr.kv.length + 1 := by rw [e1]; simp; omega
  rw [this]
  exact hM
 ·rw [ei2]; rw [ei] at hid; exact nd_ins (by rw [← ei]; exact h.nd) hid
 ·intro j hj
  rw [ei2] at hj
  have hg := h.rg j
  rw [ei] at hg
  simp only [List.mem_append, List.mem_cons] at hj hg
  rcases hj with hj | rfl | hj
  ·exact hg (Or.inl hj)
  ·exact ⟨hr1, hr2⟩
  ·exact hg (Or.inr hj)
 ·have h3 := (rebuild C (.n kn ⟨yi, .slice yp yn yc, yvs⟩ 1 .e .e)).kv_len
  rw [e2] at h3
  rw [e1] at hl
  simp at h3 hl
  omega
end
theorem fu_set {A B : List (Int × Nat)} {id : Int} {k0 k : Nat} (h : id ∉ A.map (·.1)) : fu (adr (A ++ (id, k0) :: B)) id (some k) = adr (A ++ (id, k) :: B) := by
 funext j
 by_cases e : j = id
 ·subst e; rw [fu_same, adr_mid h]
 ·rw [fu_ne _ _ e, adr_off e, adr_off e]
theorem pre_left {B : Cx} : ∀ {Ls : Cx}, (∀ g ∈ Ls, g.d = false) → preC (Ls ++ B) = preC B
 | [], _ => rfl
 | f :: Ls, h => by
  show preC (Ls ++ B) ++ (if f.d then f.o.kv ++ [(f.i.i, f.k)] else []) = preC B
  rw [h f (by simp), pre_left (fun g hg => h g (by simp [hg]))]
  simp
theorem pos_app (B : Cx) : ∀ Ls : Cx, posC (Ls ++ B) = posC Ls ++ posC B
 | [] => rfl
 | f :: Ls => by
  show (if f.d then [] else (f.i.i, f.k) :: f.o.kv) ++ posC (Ls ++ B) = ((if f.d then [] else (f.i.i, f.k) :: f.o.kv) ++ posC Ls) ++ posC B
  rw [pos_app B Ls, List.append_assoc]
section
variable {D : Nat → Prop} {w : World} {t : Nat} {mb : Hd} {lk : Int}
theorem FT.of {D' : Nat → Prop} {w' : World} {tr tr' : T} {lk' : Int} {A B : List (Int × Nat)} {i : Int} {k : Nat} (h : FT D w t mb tr lk) (e : tr.kv = A ++ (i, k) :: B) (e' : tr'.kv.map (·.1) = (A ++ B).map (·.1)) (hT : TS D' w' t mb [] tr' lk') (hM : OM w' mb.m (adr tr'.kv) (tr.kv.length - 1)) (ho : tr'.ok) (hl : lk ≤ lk') : FT D' w' t mb tr' lk' := by
 have hn := kv_nd e (by rw [T.kv_ids]; exact h.nd)
 have hlen : tr'.kv.length = tr.kv.length - 1 := by
  have := congrArg List.length e'
  rw [e]
  simp at this ⊢
  omega
 have h0 := h.l0
 refine ⟨hT, by rw [hlen]; exact hM, ho, by rw [← T.kv_ids, e']; exact hn.2.2, fun j hj => h.rg j ?_, ?_, by omega, h.hm⟩
 ·rw [← T.kv_ids, e'] at hj
  rw [← T.kv_ids, e]
  simp only [List.map_append, List.map_cons, List.mem_append, List.mem_cons] at hj ⊢
  rcases hj with hj | hj
  ·exact Or.inl hj
  ·exact Or.inr (Or.inr hj)
 ·have h1 := tr.kv_len
  have h2 := tr'.kv_len
  have h3 := h.le
  rw [hlen] at h2
  omega
theorem take_f {C : Cx} {k : Nat} {i : Py} {s : Int} {l r : T} (h : FT D w t mb (plug C (.n k i s l r)) lk) (hlk : lk ≤ 3000000000000000000) :
  Calls Try.prog 38 #[pt t 0, pt k 0] w fun e w' => e = .returned (.tuple #[]) ∧ ∃ tr' lk' D', Del (plug C (.n k i s l r)) i (l.sz + ix C) tr' ∧ FT D' w' t mb tr' lk' ∧ lk ≤ lk' ∧ lk' ≤ lk + 3 + 9 * (plug C (.n k i s l r)).ht ∧ Mk (fun j => D j ∨ j = mb.m) w w' ∧ (∀ j, D' j → D j) ∧ (∀ b, ob i.v = some b → ¬ D' b) ∧ Rw w' 10 i.v (i.vs.map V10.cells) := by
 have hkv : (plug C (.n k i s l r)).kv = (preC C ++ l.kv) ++ (i.i, k) :: (r.kv ++ posC C) := by rw [plug_kv]; simp [T.kv]
 have hn := kv_nd hkv (by rw [T.kv_ids]; exact h.nd)
 obtain ⟨oc, ot⟩ := plug_okC C h.ok
 have hps := plug_sz C (.n k i s l r)
 have hle := h.le
 have hph := plug_ht C (.n k i s l r)
 have hhl := (plug C (.n k i s l r)).ht_le
 have hkl := (plug C (.n k i s l r)).kv_len
 have h0 := h.l0
 have hcn := csz_nn C
 have hi : (adr (plug C (.n k i s l r)).kv i.i).isSome = true := by rw [hkv, adr_mid hn.1]; rfl
 have hri := h.rg i.i (by rw [← T.kv_ids, hkv]; simp)
 have hwi : (Lit.int .i64 i.i).wf = true := WalkArith.wf_i64 ⟨by omega, by omega⟩
 obtain ⟨R, root, hRS⟩ := h.ts
 have hT := RS.at C hRS
 have hb : csz C + (T.n k i s l r).sz ≤ 8000 := by omega
 have hfd : fu (adr (plug C (.n k i s l r)).kv) i.i none = adr ((preC C ++ l.kv) ++ (r.kv ++ posC C)) := by rw [hkv]; exact fu_del hn.2.1
 generalize hH : (plug C (.n k i s l r)).ht = H at *
 cases l with
 | e =>
  refine (take_B hT h.om hwi hi ot oc hb ⟨h0, by omega⟩ h.hm).mono fun e w' hq => ?_
  obtain ⟨he, lk', D', hk1, hk2, hT2, hM2, hK, hD1, hD2, hRv⟩ := hq
  rw [hfd] at hM2
  have e2 : (rebuild C r).kv = preC C ++ T.e.kv ++ (r.kv ++ posC C) := by rw [rebuild_kv]; simp [T.kv]
  have hp1 : 1 ≤ (T.n k i s .e r).ht := by unfold T.ht; omega
  exact ⟨he, rebuild C r, lk', D', ⟨C, k, s, .e, r, rfl, rfl, Or.inl ⟨rfl, rfl⟩⟩, h.of hkv (by rw [e2]) hT2 (by rw [e2]; exact hM2) (rebuild_ok C r oc ot.2.2) hk1, hk1, by omega, hK, hD1, hD2, hRv⟩
 | n lk0 li ls la lb =>
  cases r with
  | e =>
   refine (take_C hT h.om hwi hi ot oc hb ⟨h0, by omega⟩ h.hm).mono fun e w' hq => ?_
   obtain ⟨he, lk', D', hk1, hk2, hT2, hM2, hK, hD1, hD2, hRv⟩ := hq
   rw [hfd] at hM2
   have e2 : (rebuild C (.n lk0 li ls la lb)).kv = preC C ++ (T.n lk0 li ls la lb).kv ++ (T.e.kv ++ posC C) := by rw [rebuild_kv]; simp [T.kv]
   have hp1 : 1 ≤ (T.n k i s (.n lk0 li ls la lb) .e).ht := by unfold T.ht; omega
   exact ⟨he, rebuild C (.n lk0 li ls la lb), lk', D', ⟨C, k, s, .n lk0 li ls la lb, .e, rfl, rfl, Or.inr (Or.inl ⟨rfl, rfl⟩)⟩, h.of hkv (by rw [e2]) hT2 (by rw [e2]; exact hM2) (rebuild_ok C _ oc ot.2.1) hk1, hk1, by omega, hK, hD1, hD2, hRv⟩
  | n rk ri rs ra rb =>
   have hrh : (T.n rk ri rs ra rb).ht + 1 ≤ (T.n k i s (.n lk0 li ls la lb) (.n rk ri rs ra rb)).ht := by
    show _ ≤ 1 + max (T.n lk0 li ls la lb).ht (T.n rk ri rs ra rb).ht
    omega
   refine (take_A hT h.om (by omega) hwi hi ot oc hb ⟨h0, by omega⟩ (fun j hj => ?_) h.hm).mono fun e w' hq => ?_
   ·have := h.rg j.i (List.mem_map.2 ⟨j, plug_mem C (by unfold T.ids; simp only [List.mem_append, List.mem_cons]; exact Or.inr (Or.inr hj)), rfl⟩)
    exact WalkArith.wf_i64 ⟨by omega, by omega⟩
   ·obtain ⟨he, Ls, kn, i2, s2, b, lk', D', hpl, okL, hLd, hok, hk1, hk2, hlt, hT2, hM2, hK, hD1, hD2, hRv⟩ := hq
    have hpre : preC Ls = [] := by have := pre_left (B := []) hLd; rw [List.append_nil] at this; exact this
    have er : (T.n rk ri rs ra rb).kv = (i2.i, kn) :: (b.kv ++ posC Ls) := by rw [← hpl, plug_kv, hpre]; simp [T.kv]
    have e2 : (rebuild (Ls ++ (⟨k, i2, s, true, .n lk0 li ls la lb⟩ : Fr) :: C) b).kv = (preC C ++ (T.n lk0 li ls la lb).kv) ++ (i2.i, k) :: (b.kv ++ (posC Ls ++ posC C)) := by
     rw [rebuild_kv, pre_left hLd, pos_app]
     show (preC C ++ ((T.n lk0 li ls la lb).kv ++ [(i2.i, k)])) ++ b.kv ++ (posC Ls ++ ([] ++ posC C)) = _
     simp
    rw [hfd, er] at hM2
    have hn2 := hn.2.2
    rw [er] at hn2
    have hi2 : i2.i ∉ (preC C ++ (T.n lk0 li ls la lb).kv).map (·.1) := (kv_nd (l := (preC C ++ (T.n lk0 li ls la lb).kv) ++ (i2.i, kn) :: (b.kv ++ posC Ls ++ posC C)) rfl (by simpa using hn2)).1
    have hM3 : OM w' mb.m (adr (rebuild (Ls ++ (⟨k, i2, s, true, .n lk0 li ls la lb⟩ : Fr) :: C) b).kv) ((plug C (.n k i s (.n lk0 li ls la lb) (.n rk ri rs ra rb))).kv.length - 1) := by
     rw [List.cons_append, adr_mid hi2] at hM2
     rw [fu_set hi2] at hM2
     rw [e2]
     simpa using hM2
    refine ⟨he, _, lk', D', ⟨C, k, s, .n lk0 li ls la lb, .n rk ri rs ra rb, rfl, rfl, Or.inr (Or.inr ⟨by simp, Ls, kn, i2, s2, b, hpl, hLd, rfl⟩)⟩, h.of hkv (by rw [e2, er]; simp) hT2 hM3 (rebuild_ok _ b (okC_app okL ot.2.1 oc) hok.2.2) hk1, hk1, by omega, hK, hD1, hD2, hRv⟩
end
end G
end Go.Proofs.Ythfemlhmnjfjiaa
/-
 What is put in and taken out, as lists; weights: what is mended is balanced; how deep a balanced tree is.
-/
namespace Go.Proofs.Ythfemlhmnjfjiaa
open Go.RowKit
namespace G
def preR : Cx → List Py
 | [] => []
 | f :: C => preR C ++ (if f.d then f.o.ids ++ [f.i] else [])
def posR : Cx → List Py
 | [] => []
 | f :: C => (if f.d then [] else f.i :: f.o.ids) ++ posR C
theorem plug_rows : ∀ (C : Cx) (tr : T), (plug C tr).ids = preR C ++ tr.ids ++ posR C
 | [], tr => by show tr.ids = [] ++ tr.ids ++ []; simp
 | f :: C, tr => by
  show (plug C (f.jn tr)).ids = _
  rw [plug_rows C]
  unfold Fr.jn
  show _ = (preR C ++ (if f.d then f.o.ids ++ [f.i] else [])) ++ tr.ids ++ ((if f.d then [] else f.i :: f.o.ids) ++ posR C)
  cases f.d <;> simp [T.ids]
theorem preR_len : ∀ C : Cx, ((preR C).length : Int) = ix C
 | [] => rfl
 | f :: C => by
  have := preR_len C
  have h2 := T.sz_ids f.o
  show ((preR C ++ (if f.d then f.o.ids ++ [f.i] else [])).length : Int) = (if f.d then f.o.sz + 1 else 0) + ix C
  cases f.d <;> simp <;> omega
theorem preR_left {B : Cx} : ∀ {Ls : Cx}, (∀ g ∈ Ls, g.d = false) → preR (Ls ++ B) = preR B
 | [], _ => rfl
 | f :: Ls, h => by
  show preR (Ls ++ B) ++ (if f.d then f.o.ids ++ [f.i] else []) = preR B
  rw [h f (by simp), preR_left (fun g hg => h g (by simp [hg]))]
  simp
theorem posR_app (B : Cx) : ∀ Ls : Cx, posR (Ls ++ B) = posR Ls ++ posR B
 | [] => rfl
 | f :: Ls => by
  show (if f.d then [] else f.i :: f.o.ids) ++ posR (Ls ++ B) = ((if f.d then [] else f.i :: f.o.ids) ++ posR Ls) ++ posR B
  rw [posR_app B Ls, List.append_assoc]
theorem Ins.ids {tr tr' : T} {at0 : Int} {y : Py} {kn : Nat} (h : Ins tr at0 y kn tr') : ∃ A B, tr.ids = A ++ B ∧ (A.length : Int) = at0 ∧ tr'.ids = A ++ y :: B := by
 obtain ⟨C, hp, hix, rfl⟩ := h
 refine ⟨preR C, posR C, ?_, ?_, ?_⟩
 ·rw [← hp, plug_rows]; simp [T.ids]
 ·rw [preR_len, hix]
 ·rw [rebuild_ids, plug_rows]; simp [T.ids]
theorem Del.ids {tr tr' : T} {i : Py} {p : Int} (h : Del tr i p tr') : ∃ A B, tr.ids = A ++ i :: B ∧ (A.length : Int) = p ∧ tr'.ids = A ++ B := by
 obtain ⟨C, k, s, l, r, hp, rfl, h⟩ := h
 have h1 := preR_len C
 have h2 := T.sz_ids l
 refine ⟨preR C ++ l.ids, r.ids ++ posR C, ?_, by rw [List.length_append]; omega, ?_⟩
 ·rw [← hp, plug_rows]; simp [T.ids]
 ·rcases h with ⟨rfl, rfl⟩ | ⟨rfl, rfl⟩ | ⟨_, Ls, kn, i2, s2, b, hpl, hLd, rfl⟩
  ·rw [rebuild_ids, plug_rows]; simp [T.ids]
  ·rw [rebuild_ids, plug_rows]; simp [T.ids]
  ·have hpre : preR Ls = [] := by have := preR_left (B := []) hLd; rw [List.append_nil] at this; exact this
   have er : r.ids = i2 :: (b.ids ++ posR Ls) := by rw [← hpl, plug_rows, hpre]; simp [T.ids]
   rw [rebuild_ids, plug_rows, preR_left hLd, posR_app, er]
   show (preR C ++ (l.ids ++ [i2])) ++ b.ids ++ (posR Ls ++ ([] ++ posR C)) = _
   simp
def T.bw : T → Prop
 | .e => True
 | .n _ _ _ l r => l.sz + 1 ≤ 3 * (r.sz + 1) ∧ r.sz + 1 ≤ 3 * (l.sz + 1) ∧ l.bw ∧ r.bw
theorem bal_bw {k : Nat} {i : Py} {l r : T} (hl : l.bw) (hr : r.bw) (h1 : l.sz + 1 ≤ 3 * (r.sz + 1) + 3) (h2 : r.sz + 1 ≤ 3 * (l.sz + 1) + 3) : (bal k i l r).bw := by
 unfold bal
 have hl0 := T.sz_nn l
 have hr0 := T.sz_nn r
 split
 ·rename_i hh
  unfold lightL
  cases l with
  | e => simp only [T.sz] at hh; omega
  | n kk ii ss a b =>
   have ha0 := T.sz_nn a
   have hb0 := T.sz_nn b
   obtain ⟨q1, q2, q3, q4⟩ := hl
   cases hd : decide (2 * (a.sz + 1) ≤ b.sz + 1) with
   | false =>
    have hd' := of_decide_eq_false hd
    simp only [hd]
    simp only [T.bw, T.sz] at *
    refine ⟨by omega, by omega, q3, by omega, by omega, q4, hr⟩
   | true =>
    have hd' := of_decide_eq_true hd
    cases b with
    | e => simp only [T.sz] at hd'; omega
    | n j jj js c z =>
     have hc0 := T.sz_nn c
     have hz0 := T.sz_nn z
     obtain ⟨p1, p2, p3, p4⟩ := q4
     simp only [hd]
     simp only [T.bw, T.sz] at *
     refine ⟨by omega, by omega, ⟨by omega, by omega, q3, p3⟩, by omega, by omega, p4, hr⟩
 ·rename_i hh
  split
  ·rename_i hh2
   unfold lightR
   cases r with
   | e => simp only [T.sz] at hh2; omega
   | n kk ii ss b a =>
    have ha0 := T.sz_nn a
    have hb0 := T.sz_nn b
    obtain ⟨q1, q2, q4, q3⟩ := hr
    cases hd : decide (2 * (a.sz + 1) ≤ b.sz + 1) with
    | false =>
     have hd' := of_decide_eq_false hd
     simp only [hd]
     simp only [T.bw, T.sz] at *
     refine ⟨by omega, by omega, ⟨by omega, by omega, hl, q4⟩, q3⟩
    | true =>
     have hd' := of_decide_eq_true hd
     cases b with
     | e => simp only [T.sz] at hd'; omega
     | n j jj js c z =>
      have hc0 := T.sz_nn c
      have hz0 := T.sz_nn z
      obtain ⟨p1, p2, p3, p4⟩ := q4
      simp only [hd]
      simp only [T.bw, T.sz] at *
      refine ⟨by omega, by omega, ⟨by omega, by omega, hl, p3⟩, by omega, by omega, p4, q3⟩
  ·exact ⟨by omega, by omega, hl, hr⟩
theorem jn_bw {f : Fr} {t : T} (h : (f.jn t).bw) : f.o.bw ∧ t.bw ∧ f.o.sz + 1 ≤ 3 * (t.sz + 1) ∧ t.sz + 1 ≤ 3 * (f.o.sz + 1) := by
 unfold Fr.jn at h
 cases hd : f.d with
 | true => rw [hd] at h; exact ⟨h.2.2.1, h.2.2.2, h.1, h.2.1⟩
 | false => rw [hd] at h; exact ⟨h.2.2.2, h.2.2.1, h.2.1, h.1⟩
theorem jn_sz (f : Fr) (t : T) : (f.jn t).sz = 1 + f.o.sz + t.sz := by
 unfold Fr.jn
 cases f.d <;> simp [T.sz] <;> omega
theorem plug_bw : ∀ {C : Cx} {t : T}, (plug C t).bw → t.bw
 | [], _, h => h
 | _ :: C, _, h => (jn_bw (plug_bw (C := C) h)).2.1
theorem rebuild_bw : ∀ (C : Cx) {t0 t1 : T}, (plug C t0).bw → t1.bw → t1.sz ≤ t0.sz + 1 → t0.sz ≤ t1.sz + 1 → (rebuild C t1).bw
 | [], _, _, _, h, _, _ => h
 | f :: C, t0, t1, h0, h, a, b => by
  obtain ⟨q1, _, q3, q4⟩ := jn_bw (plug_bw (C := C) h0)
  have hb : (balF f t1).bw := by
   unfold balF
   split
   ·exact bal_bw q1 h (by omega) (by omega)
   ·exact bal_bw h q1 (by omega) (by omega)
  exact rebuild_bw C (t0 := f.jn t0) h0 hb (by rw [balF_sz, jn_sz]; omega) (by rw [balF_sz, jn_sz]; omega)
theorem plug_bw_like : ∀ (C : Cx) {t u : T}, t.sz = u.sz → (t.bw → u.bw) → (plug C t).bw → (plug C u).bw
 | [], _, _, _, h, k => h k
 | f :: C, t, u, hs, h, k => by
  refine plug_bw_like C (t := f.jn t) (u := f.jn u) (by rw [jn_sz, jn_sz, hs]) (fun q => ?_) k
  unfold Fr.jn at q ⊢
  cases hd : f.d with
  | true => rw [hd] at q; exact ⟨by rw [← hs]; exact q.1, by rw [← hs]; exact q.2.1, q.2.2.1, h q.2.2.2⟩
  | false => rw [hd] at q; exact ⟨by rw [← hs]; exact q.1, by rw [← hs]; exact q.2.1, h q.2.2.1, q.2.2.2⟩
theorem Ins.bw {tr tr' : T} {at0 : Int} {id : Py} {kn : Nat} (h : Ins tr at0 id kn tr') (hb : tr.bw) : tr'.bw := by
 obtain ⟨C, rfl, _, rfl⟩ := h
 exact rebuild_bw C hb ⟨by simp [T.sz], by simp [T.sz], trivial, trivial⟩ (by simp [T.sz]) (by simp [T.sz])
theorem Del.bw {tr tr' : T} {i : Py} {p : Int} (h : Del tr i p tr') (hb : tr.bw) : tr'.bw := by
 obtain ⟨C, k, s, l, r, rfl, _, h⟩ := h
 have hn := plug_bw (C := C) hb
 rcases h with ⟨rfl, rfl⟩ | ⟨rfl, rfl⟩ | ⟨_, Ls, kn, i2, s2, b, hpl, _, rfl⟩
 ·exact rebuild_bw C hb hn.2.2.2 (by simp only [T.sz]; omega) (by simp only [T.sz]; omega)
 ·exact rebuild_bw C hb hn.2.2.1 (by simp only [T.sz]; omega) (by simp only [T.sz]; omega)
 ·have h2 : (plug (Ls ++ (⟨k, i2, s, true, l⟩ : Fr) :: C) (.n kn i2 s2 .e b)).bw := by
   rw [plug_app, hpl]
   exact plug_bw_like C (t := .n k i s l r) rfl (fun q => q) hb
  exact rebuild_bw _ h2 (plug_bw h2).2.2.2 (by simp only [T.sz]; omega) (by simp only [T.sz]; omega)
end G
end Go.Proofs.Ythfemlhmnjfjiaa
/-
 The tree's calls: made, Len, Looked, Depth, At, Index, Delete.
-/
namespace Go.Proofs.Ythfemlhmnjfjiaa
open Go.RowKit
namespace G
section
variable {D : Nat → Prop} {w : World} {t : Nat} {mb : Hd} {R : Mp} {root : Option Nat} {lk : Int}
theorem neT (k : Nat) (a b : Operand) (w : World) : (do eqGuard .neq 24 a b (pt k 0) (.pointer none); binOp .neq 24 (pt k 0) (.pointer none)).run Try.prog w = .ok (.bool true) w := by kernel_rfl
theorem neM (k : Nat) (a b : Operand) (w : World) : (do eqGuard .neq 66 a b (.map (some k)) (.map none); binOp .neq 66 (.map (some k)) (.map none)).run Try.prog w = .ok (.bool true) w := by kernel_rfl
theorem ltL {a b : Int} {r : Bool} (h : decide (a < b) = r) (x y : Operand) (w : World) : (do eqGuard .lss 2 x y (.int .i64 a) (.int .i64 b); binOp .lss 2 (.int .i64 a) (.int .i64 b)).run Try.prog w = .ok (.bool r) w := by
 subst h; kernel_rfl
theorem gtL {a b : Int} {r : Bool} (h : decide (b < a) = r) (x y : Operand) (w : World) : (do eqGuard .gtr 2 x y (.int .i64 a) (.int .i64 b); binOp .gtr 2 (.int .i64 a) (.int .i64 b)).run Try.prog w = .ok (.bool r) w := by
 subst h; kernel_rfl
theorem lenm {b n : Nat} {f : Int → Option Nat} (hM : OM w b f n) (ρ : Operand → Value) (x : Operand) (hx : ρ x = .map (some b)) (dst : Option Tmp) (type : TypeId) (pos : String) (after : Array Edge) (guard : Option (Nat × Bool)) : (execOp ρ { dst, op := .call { callee := .builtin .len, args := #[x], argTypes := #[66] }, type, pos, after, guard }).run Try.prog w = .ok (.value (.int .i64 (n : Int))) w := by
 unfold execOp
 simp only [resolve, invoke, builtin, Sem.run_bind, Sem.run_pure, Result.andThen_ok, List.map_toArray, List.map_cons, List.map_nil, hx, hM.len]
theorem made_n {w : World} (hS : HS D w t mb R root lk) : Calls Try.prog 30 #[pt t 0] w fun e w' => e = .returned (.bool true) ∧ Mo w w' := by
 refine w_enter 12 Try.func30 Try.ntmps30 rfl rfl ?_
 have M : Mo w w := Mo.refl _
 refine w_seq (w_reg ?_)
 refine wl_m (.const (.bool false)) (.bool false) ?_
 refine w_nil (xn_then (w_seq (w_reg ?_)))
 refine wl_m (.tmp 0) (pt t 0) ?_
 refine wl_b .neq 24 (.tmp 3) (.const (.pointer none)) (pt t 0) (pp none) (.bool true) (neT t _ _ _) ?_
 refine wl_m (.tmp 4) (.bool true) ?_
 refine wl_m (.tmp 0) (pt t 0) ?_
 refine wl_nc (.tmp 6) t 0 rfl rfl rfl ?_
 refine wl_f 68 2 (.tmp 7) (pt t 0) (pt t 2) ?_
 refine wl_l 66 (.tmp 8) (pt t 2) (.map (some mb.m)) (run_one hS.tr 66 2 rfl Try.underlying66 rfl) ?_
 refine wl_b .neq 66 (.tmp 9) (.const (.map none)) (.map (some mb.m)) (.map none) (.bool true) (neM mb.m _ _ _) ?_
 refine wl_pick (.tmp 5) (.tmp 10) (.const (.bool false)) true (.bool true) (fun _ => rfl) rfl rfl rfl ?_
 refine wl_m (.tmp 11) (.bool true) ?_
 refine w_nil (xn_then (w_ret ?_))
 exact w_ret1 _ _ rfl rfl ⟨rfl, M⟩
theorem len_n {w : World} {f : Int → Option Nat} {n : Nat} (hS : HS D w t mb R root lk) (hM : OM w mb.m f n) : Calls Try.prog 10 #[pt t 0] w fun e w' => e = .returned (.int .i64 (n : Int)) ∧ Mo w w' := by
 refine w_enter 11 Try.func10 Try.ntmps10 rfl rfl ?_
 have M : Mo w w := Mo.refl _
 refine w_seq (w_reg ?_)
 refine wl_m (.const (.int .i64 (0))) (.int .i64 (0)) ?_
 refine w_nil (xn_then (w_seq (w_seq (w_reg ?_))))
 refine wl_m (.tmp 0) (pt t 0) ?_
 refine wl_call 30 [(.tmp 3)] _ [pt t 0] (.bool true) rfl rfl (fun _ _ => by kernel_rfl) (made_n hS) rfl ?_
 intro w1 hq
 replace hS := hS.mo hq
 replace hM := hM.mo hq
 replace M := M.trans hq
 clear hq
 refine wl_un (fun v => Op.unary .not v) (.tmp 4) (.bool true) (.bool false) (fun _ => rfl) rfl (by kernel_rfl) rfl ?_
 refine w_nil (xn_then (w_condF rfl (w_skip (xn_then (w_seq (w_reg ?_))))))
 refine wl_m (.tmp 0) (pt t 0) ?_
 refine wl_nc (.tmp 6) t 0 rfl rfl rfl ?_
 refine wl_f 68 2 (.tmp 7) (pt t 0) (pt t 2) ?_
 refine wl_l 66 (.tmp 8) (pt t 2) (.map (some mb.m)) (run_one hS.tr 66 2 rfl Try.underlying66 rfl) ?_
 refine wl_val (.int .i64 ((n : Int))) (lenm hM _ _ (by exact rfl) _ _ _ _ _) rfl ?_
 refine wl_m (.tmp 10) (.int .i64 ((n : Int))) ?_
 refine w_nil (xn_then (w_ret ?_))
 exact w_ret1 _ _ rfl rfl ⟨rfl, M⟩
theorem FT.lkd {w' : World} {tr : T} {lk' : Int} (h : FT D w t mb tr lk) (hT : TS D w' t mb [] tr lk') (hM : OM w' mb.m (adr tr.kv) tr.kv.length) (hl : lk ≤ lk') : FT D w' t mb tr lk' := ⟨hT, hM, h.ok, h.nd, h.rg, h.le, Int.le_trans h.l0 hl, h.hm⟩
theorem ids_at {C : Cx} {k : Nat} {i : Py} {s : Int} {l r : T} : (plug C (.n k i s l r)).ids[(l.sz + ix C).toNat]? = some i := by
 have hkv : (plug C (.n k i s l r)).ids = (preR C ++ l.ids) ++ i :: (r.ids ++ posR C) := by rw [plug_rows]; simp [T.ids]
 have h1 := preR_len C
 have h2 := T.sz_ids l
 rw [hkv, List.getElem?_append_right (by simp; omega)]
 rw [show (l.sz + ix C).toNat - (preR C ++ l.ids).length = 0 by simp; omega]
 rfl
theorem delete_a {tr : T} {id : Int} (h : FT D w t mb tr lk) (hi : -9223372036854775808 ≤ id ∧ id ≤ 9223372036854775807) (hq : adr tr.kv id = none) : Calls Try.prog 15 #[pt t 0, .int .i64 id] w fun e w' => e = .returned (.tuple #[.int .i64 0, .int .i64 4]) ∧ Mo w w' := by
 have hw : (Lit.int .i64 id).wf = true := WalkArith.wf_i64 ⟨hi.1, hi.2⟩
 obtain ⟨R, root, hS, hAp, hC, hR, hn⟩ := h.ts
 have hM := h.om
 refine w_enter 26 Try.func15 Try.ntmps15 rfl rfl ?_
 have M : Mo w w := Mo.refl _
 refine w_seq (w_reg ?_)
 refine wl_m (.const (.int .i64 (0))) (.int .i64 (0)) ?_
 refine wl_m (.const (.int .i64 (0))) (.int .i64 (0)) ?_
 refine w_nil (xn_then (w_seq (w_seq (w_reg ?_))))
 refine wl_m (.tmp 0) (pt t 0) ?_
 refine wl_call 30 [(.tmp 8)] _ [pt t 0] (.bool true) rfl rfl (fun _ _ => by kernel_rfl) (made_n hS) rfl ?_
 intro w1 hq
 replace hS := hS.mo hq
 replace hM := hM.mo hq
 replace M := M.trans hq
 clear hq
 refine wl_un (fun v => Op.unary .not v) (.tmp 9) (.bool true) (.bool false) (fun _ => rfl) rfl (by kernel_rfl) rfl ?_
 refine w_nil (xn_then (w_condF rfl (w_skip (xn_then (w_seq (w_reg ?_))))))
 refine wl_m (.tmp 0) (pt t 0) ?_
 refine wl_nc (.tmp 11) t 0 rfl rfl rfl ?_
 refine wl_f 68 2 (.tmp 12) (pt t 0) (pt t 2) ?_
 refine wl_l 66 (.tmp 13) (pt t 2) (.map (some mb.m)) (run_one hS.tr 66 2 rfl Try.underlying66 rfl) ?_
 refine wl_m (.tmp 1) (.int .i64 (id)) ?_
 refine wl_bin (fun x y => Instr.lookup 66 x y false) (.tmp 14) (.tmp 15) (.map (some mb.m)) (.int .i64 (id)) (pp none) (fun _ => rfl) rfl rfl (by have := hM.look hw; rw [hq] at this; exact this) rfl ?_
 refine wl_m (.tmp 16) (pp none) ?_
 refine w_nil (xn_then (w_seq (w_seq (w_reg ?_))))
 refine wl_m (.tmp 6) (pp none) ?_
 refine wl_b .eql 65 (.tmp 17) (.const (.pointer none)) (pp none) (pp none) (.bool true) (eqP none _ _ _) ?_
 refine w_nil (xn_then (w_condT rfl (w_seq (w_reg ?_))))
 refine wl_m (.const (.int .i64 (0))) (.int .i64 (0)) ?_
 refine wl_m (.const (.int .i64 (4))) (.int .i64 (4)) ?_
 refine w_nil (xn_then (w_ret (xr_then ?_)))
 exact w_ret2 _ _ (.int .i64 (0)) (.int .i64 (4)) rfl rfl rfl ⟨rfl, M⟩
theorem delete_ok {tr : T} {id : Int} (h : FT D w t mb tr lk) (hi : -9223372036854775808 ≤ id ∧ id ≤ 9223372036854775807) {k : Nat} (hq : adr tr.kv id = some k) (hlk : lk ≤ 2900000000000000000) : Calls Try.prog 15 #[pt t 0, .int .i64 id] w fun e w' => ∃ p y tr' lk' D', e = .returned (.tuple #[.int .i64 p, .int .i64 0]) ∧ 0 ≤ p ∧ tr.ids[p.toNat]? = some y ∧ y.i = id ∧ Del tr y p tr' ∧ FT D' w' t mb tr' lk' ∧ lk ≤ lk' ∧ lk' ≤ lk + 3 + 11 * tr.ht ∧ Mk (fun j => D j ∨ j = mb.m) w w' ∧ ∀ j, D' j → D j := by
 have hw : (Lit.int .i64 id).wf = true := WalkArith.wf_i64 ⟨hi.1, hi.2⟩
 obtain ⟨C0, y0, s0, l0, r0, hpl, hy0⟩ := kv_focus tr (adr_some hq)
 have ok0 := plug_okC C0 (tr := .n k y0 s0 l0 r0) (by rw [hpl]; exact h.ok)
 have hsz := plug_sz C0 (.n k y0 s0 l0 r0)
 have hph := plug_ht C0 (.n k y0 s0 l0 r0)
 rw [hpl] at hsz hph
 simp only [T.sz] at hsz
 have hph1 : 1 ≤ (T.n k y0 s0 l0 r0).ht := by unfold T.ht; omega
 have hle := h.le
 have hl00 := h.l0
 have hhl := tr.ht_le
 have hcn := csz_nn C0; have hl0n := T.sz_nn l0; have hr0n := T.sz_nn r0
 obtain ⟨R, root, hS, hAp, hC, hR, hn⟩ := h.ts
 have hM := h.om
 have hix := pre_len C0
 refine w_enter 26 Try.func15 Try.ntmps15 rfl rfl ?_
 have M : Mk (fun j => D j ∨ j = mb.m) w w := Mk.refl _ _
 refine w_seq (w_reg ?_)
 refine wl_m (.const (.int .i64 (0))) (.int .i64 (0)) ?_
 refine wl_m (.const (.int .i64 (0))) (.int .i64 (0)) ?_
 refine w_nil (xn_then (w_seq (w_seq (w_reg ?_))))
 refine wl_m (.tmp 0) (pt t 0) ?_
 refine wl_call 30 [(.tmp 8)] _ [pt t 0] (.bool true) rfl rfl (fun _ _ => by kernel_rfl) (made_n hS) rfl ?_
 intro w1 hq
 replace hS := hS.mo hq
 replace hM := hM.mo hq
 replace M := M.trans hq
 clear hq
 refine wl_un (fun v => Op.unary .not v) (.tmp 9) (.bool true) (.bool false) (fun _ => rfl) rfl (by kernel_rfl) rfl ?_
 refine w_nil (xn_then (w_condF rfl (w_skip (xn_then (w_seq (w_reg ?_))))))
 refine wl_m (.tmp 0) (pt t 0) ?_
 refine wl_nc (.tmp 11) t 0 rfl rfl rfl ?_
 refine wl_f 68 2 (.tmp 12) (pt t 0) (pt t 2) ?_
 refine wl_l 66 (.tmp 13) (pt t 2) (.map (some mb.m)) (run_one hS.tr 66 2 rfl Try.underlying66 rfl) ?_
 refine wl_m (.tmp 1) (.int .i64 (id)) ?_
 refine wl_bin (fun x y => Instr.lookup 66 x y false) (.tmp 14) (.tmp 15) (.map (some mb.m)) (.int .i64 (id)) (pt k 0) (fun _ => rfl) rfl rfl (by have := hM.look hw; rw [hq] at this; exact this) rfl ?_
 refine wl_m (.tmp 16) (pt k 0) ?_
 refine w_nil (xn_then (w_seq (w_seq (w_reg ?_))))
 refine wl_m (.tmp 6) (pt k 0) ?_
 refine wl_b .eql 65 (.tmp 17) (.const (.pointer none)) (pt k 0) (pp none) (.bool false) (eqP (some k) _ _ _) ?_
 refine w_nil (xn_then (w_condF rfl (w_skip (xn_then (w_seq (w_reg ?_))))))
 refine wl_m (.tmp 0) (pt t 0) ?_
 refine wl_m (.tmp 6) (pt k 0) ?_
 refine wl_callg 37 [(.tmp 19), (.tmp 20)] _ [pt t 0, pt k 0] (.int .i64 (l0.sz + ix C0)) rfl rfl (fun _ _ => by kernel_rfl) (place_n (C := C0) (k := k) (i := y0) (s := s0) (l0 := l0) (r0 := r0) (R := R) (root := root) (by rw [hpl]; exact ⟨hS, hAp, hC, hR, hn⟩) ok0.2 ok0.1 (by omega) ⟨by omega, by omega⟩) rfl ?_
 intro w2 hF
 obtain ⟨lk2, hk1, hk2, hS9, hM2⟩ := hF
 replace hM := hM.mk hM2 hS.nb
 replace M := M.tr hM2 (fun _ _ e => Or.inl e)
 replace hS := hS9
 clear hM2 hS9
 have hF1 := h.lkd ⟨R, root, ⟨hS, hAp, hC, hR, hn⟩⟩ hM hk1
 refine wl_m (.tmp 21) (.int .i64 (l0.sz + ix C0)) ?_
 refine w_nil (xn_then (w_seq (w_reg ?_)))
 refine wl_m (.tmp 0) (pt t 0) ?_
 refine wl_m (.tmp 6) (pt k 0) ?_
 refine wl_callg 38 [(.tmp 22), (.tmp 23)] _ [pt t 0, pt k 0] (.tuple #[]) rfl rfl (fun _ _ => by kernel_rfl) (take_f (C := C0) (k := k) (i := y0) (s := s0) (l := l0) (r := r0) (by rw [hpl]; exact hF1) (by omega)) rfl ?_
 intro w3 hF
 rw [hpl] at hF
 obtain ⟨tr2, lk3, D2, hD, hF2, hk3, hk4, hM2, hD1, hD2, hRv⟩ := hF
 replace M := M.same hM2
 clear hM2
 refine w_nil (xn_then (w_seq (w_reg ?_)))
 refine wl_m (.tmp 7) (.int .i64 (l0.sz + ix C0)) ?_
 refine wl_m (.tmp 25) (.int .i64 (l0.sz + ix C0)) ?_
 refine wl_m (.const (.int .i64 (0))) (.int .i64 (0)) ?_
 refine w_nil (xn_then (w_ret ?_))
 exact w_ret2 _ _ (.int .i64 (l0.sz + ix C0)) (.int .i64 (0)) rfl rfl rfl ⟨l0.sz + ix C0, y0, tr2, lk3, D2, rfl, by omega, by rw [← hpl]; exact ids_at, hy0, hD, hF2, by omega, by omega, M, hD1⟩
end
end G
end Go.Proofs.Ythfemlhmnjfjiaa
/-
 The tree's Move.
-/
namespace Go.Proofs.Ythfemlhmnjfjiaa
open Go.RowKit
namespace G
section
variable {D : Nat → Prop} {w : World} {t : Nat} {mb : Hd} {R : Mp} {root : Option Nat} {lk : Int}
theorem move_a {tr : T} {id at0 : Int} (h : FT D w t mb tr lk) (hi : -9223372036854775808 ≤ id ∧ id ≤ 9223372036854775807) (hq : adr tr.kv id = none) : Calls Try.prog 16 #[pt t 0, .int .i64 id, .int .i64 at0] w fun e w' => e = .returned (.tuple #[.int .i64 0, .int .i64 4]) ∧ Mo w w' := by
 have hw : (Lit.int .i64 id).wf = true := WalkArith.wf_i64 ⟨hi.1, hi.2⟩
 obtain ⟨R, root, hS, hAp, hC, hR, hn⟩ := h.ts
 have hM := h.om
 refine w_enter 45 Try.func16 Try.ntmps16 rfl rfl ?_
 have M : Mo w w := Mo.refl _
 refine w_seq (w_reg ?_)
 refine wl_m (.const (.int .i64 (0))) (.int .i64 (0)) ?_
 refine wl_m (.const (.int .i64 (0))) (.int .i64 (0)) ?_
 refine w_nil (xn_then (w_seq (w_seq (w_reg ?_))))
 refine wl_m (.tmp 0) (pt t 0) ?_
 refine wl_call 30 [(.tmp 11)] _ [pt t 0] (.bool true) rfl rfl (fun _ _ => by kernel_rfl) (made_n hS) rfl ?_
 intro w1 hq
 replace hS := hS.mo hq
 replace hM := hM.mo hq
 replace M := M.trans hq
 clear hq
 refine wl_un (fun v => Op.unary .not v) (.tmp 12) (.bool true) (.bool false) (fun _ => rfl) rfl (by kernel_rfl) rfl ?_
 refine w_nil (xn_then (w_condF rfl (w_skip (xn_then (w_seq (w_reg ?_))))))
 refine wl_m (.tmp 0) (pt t 0) ?_
 refine wl_nc (.tmp 14) t 0 rfl rfl rfl ?_
 refine wl_f 68 2 (.tmp 15) (pt t 0) (pt t 2) ?_
 refine wl_l 66 (.tmp 16) (pt t 2) (.map (some mb.m)) (run_one hS.tr 66 2 rfl Try.underlying66 rfl) ?_
 refine wl_m (.tmp 1) (.int .i64 (id)) ?_
 refine wl_bin (fun x y => Instr.lookup 66 x y false) (.tmp 17) (.tmp 18) (.map (some mb.m)) (.int .i64 (id)) (pp none) (fun _ => rfl) rfl rfl (by have := hM.look hw; rw [hq] at this; exact this) rfl ?_
 refine wl_m (.tmp 19) (pp none) ?_
 refine w_nil (xn_then (w_seq (w_seq (w_reg ?_))))
 refine wl_m (.tmp 8) (pp none) ?_
 refine wl_b .eql 65 (.tmp 20) (.const (.pointer none)) (pp none) (pp none) (.bool true) (eqP none _ _ _) ?_
 refine w_nil (xn_then (w_condT rfl (w_seq (w_reg ?_))))
 refine wl_m (.const (.int .i64 (0))) (.int .i64 (0)) ?_
 refine wl_m (.const (.int .i64 (4))) (.int .i64 (4)) ?_
 refine w_nil (xn_then (w_ret (xr_then ?_)))
 exact w_ret2 _ _ (.int .i64 (0)) (.int .i64 (4)) rfl rfl rfl ⟨rfl, M⟩
theorem move_b {tr : T} {id at0 : Int} (h : FT D w t mb tr lk) (hi : -9223372036854775808 ≤ id ∧ id ≤ 9223372036854775807) {k : Nat} (hq : adr tr.kv id = some k) (q4 : decide (at0 < 0) = true) : Calls Try.prog 16 #[pt t 0, .int .i64 id, .int .i64 at0] w fun e w' => e = .returned (.tuple #[.int .i64 0, .int .i64 1]) ∧ Mo w w' := by
 have hw : (Lit.int .i64 id).wf = true := WalkArith.wf_i64 ⟨hi.1, hi.2⟩
 obtain ⟨R, root, hS, hAp, hC, hR, hn⟩ := h.ts
 have hM := h.om
 refine w_enter 45 Try.func16 Try.ntmps16 rfl rfl ?_
 have M : Mo w w := Mo.refl _
 refine w_seq (w_reg ?_)
 refine wl_m (.const (.int .i64 (0))) (.int .i64 (0)) ?_
 refine wl_m (.const (.int .i64 (0))) (.int .i64 (0)) ?_
 refine w_nil (xn_then (w_seq (w_seq (w_reg ?_))))
 refine wl_m (.tmp 0) (pt t 0) ?_
 refine wl_call 30 [(.tmp 11)] _ [pt t 0] (.bool true) rfl rfl (fun _ _ => by kernel_rfl) (made_n hS) rfl ?_
 intro w1 hq
 replace hS := hS.mo hq
 replace hM := hM.mo hq
 replace M := M.trans hq
 clear hq
 refine wl_un (fun v => Op.unary .not v) (.tmp 12) (.bool true) (.bool false) (fun _ => rfl) rfl (by kernel_rfl) rfl ?_
 refine w_nil (xn_then (w_condF rfl (w_skip (xn_then (w_seq (w_reg ?_))))))
 refine wl_m (.tmp 0) (pt t 0) ?_
 refine wl_nc (.tmp 14) t 0 rfl rfl rfl ?_
 refine wl_f 68 2 (.tmp 15) (pt t 0) (pt t 2) ?_
 refine wl_l 66 (.tmp 16) (pt t 2) (.map (some mb.m)) (run_one hS.tr 66 2 rfl Try.underlying66 rfl) ?_
 refine wl_m (.tmp 1) (.int .i64 (id)) ?_
 refine wl_bin (fun x y => Instr.lookup 66 x y false) (.tmp 17) (.tmp 18) (.map (some mb.m)) (.int .i64 (id)) (pt k 0) (fun _ => rfl) rfl rfl (by have := hM.look hw; rw [hq] at this; exact this) rfl ?_
 refine wl_m (.tmp 19) (pt k 0) ?_
 refine w_nil (xn_then (w_seq (w_seq (w_reg ?_))))
 refine wl_m (.tmp 8) (pt k 0) ?_
 refine wl_b .eql 65 (.tmp 20) (.const (.pointer none)) (pt k 0) (pp none) (.bool false) (eqP (some k) _ _ _) ?_
 refine w_nil (xn_then (w_condF rfl (w_skip (xn_then (w_seq (w_seq (w_reg ?_)))))))
 refine wl_m (.tmp 2) (.int .i64 (at0)) ?_
 refine wl_b .lss 3 (.tmp 22) (.const (.int .i64 (0))) (.int .i64 (at0)) (.int .i64 (0)) (.bool true) (ltI q4 _ _ _) ?_
 refine wl_m (.tmp 23) (.bool true) ?_
 refine wl_skip rfl (wl_skip rfl (wl_skip rfl (wl_skip rfl ?_)))
 refine wl_pick (.tmp 24) (.const (.bool true)) (.tmp 28) true (.bool true) (fun _ => rfl) rfl rfl rfl ?_
 refine w_nil (xn_then (w_condT rfl (w_seq (w_reg ?_))))
 refine wl_m (.const (.int .i64 (0))) (.int .i64 (0)) ?_
 refine wl_m (.const (.int .i64 (1))) (.int .i64 (1)) ?_
 refine w_nil (xn_then (w_ret (xr_then ?_)))
 exact w_ret2 _ _ (.int .i64 (0)) (.int .i64 (1)) rfl rfl rfl ⟨rfl, M⟩
theorem move_c {tr : T} {id at0 : Int} (h : FT D w t mb tr lk) (hi : -9223372036854775808 ≤ id ∧ id ≤ 9223372036854775807) {k : Nat} (hq : adr tr.kv id = some k) (q4 : decide (at0 < 0) = false) (q6 : decide ((tr.kv.length : Int) ≤ at0) = true) : Calls Try.prog 16 #[pt t 0, .int .i64 id, .int .i64 at0] w fun e w' => e = .returned (.tuple #[.int .i64 0, .int .i64 1]) ∧ Mo w w' := by
 have hw : (Lit.int .i64 id).wf = true := WalkArith.wf_i64 ⟨hi.1, hi.2⟩
 obtain ⟨R, root, hS, hAp, hC, hR, hn⟩ := h.ts
 have hM := h.om
 refine w_enter 45 Try.func16 Try.ntmps16 rfl rfl ?_
 have M : Mo w w := Mo.refl _
 refine w_seq (w_reg ?_)
 refine wl_m (.const (.int .i64 (0))) (.int .i64 (0)) ?_
 refine wl_m (.const (.int .i64 (0))) (.int .i64 (0)) ?_
 refine w_nil (xn_then (w_seq (w_seq (w_reg ?_))))
 refine wl_m (.tmp 0) (pt t 0) ?_
 refine wl_call 30 [(.tmp 11)] _ [pt t 0] (.bool true) rfl rfl (fun _ _ => by kernel_rfl) (made_n hS) rfl ?_
 intro w1 hq
 replace hS := hS.mo hq
 replace hM := hM.mo hq
 replace M := M.trans hq
 clear hq
 refine wl_un (fun v => Op.unary .not v) (.tmp 12) (.bool true) (.bool false) (fun _ => rfl) rfl (by kernel_rfl) rfl ?_
 refine w_nil (xn_then (w_condF rfl (w_skip (xn_then (w_seq (w_reg ?_))))))
 refine wl_m (.tmp 0) (pt t 0) ?_
 refine wl_nc (.tmp 14) t 0 rfl rfl rfl ?_
 refine wl_f 68 2 (.tmp 15) (pt t 0) (pt t 2) ?_
 refine wl_l 66 (.tmp 16) (pt t 2) (.map (some mb.m)) (run_one hS.tr 66 2 rfl Try.underlying66 rfl) ?_
 refine wl_m (.tmp 1) (.int .i64 (id)) ?_
 refine wl_bin (fun x y => Instr.lookup 66 x y false) (.tmp 17) (.tmp 18) (.map (some mb.m)) (.int .i64 (id)) (pt k 0) (fun _ => rfl) rfl rfl (by have := hM.look hw; rw [hq] at this; exact this) rfl ?_
 refine wl_m (.tmp 19) (pt k 0) ?_
 refine w_nil (xn_then (w_seq (w_seq (w_reg ?_))))
 refine wl_m (.tmp 8) (pt k 0) ?_
 refine wl_b .eql 65 (.tmp 20) (.const (.pointer none)) (pt k 0) (pp none) (.bool false) (eqP (some k) _ _ _) ?_
 refine w_nil (xn_then (w_condF rfl (w_skip (xn_then (w_seq (w_seq (w_reg ?_)))))))
 refine wl_m (.tmp 2) (.int .i64 (at0)) ?_
 refine wl_b .lss 3 (.tmp 22) (.const (.int .i64 (0))) (.int .i64 (at0)) (.int .i64 (0)) (.bool false) (ltI q4 _ _ _) ?_
 refine wl_m (.tmp 23) (.bool false) ?_
 refine wl_m (.tmp 2) (.int .i64 (at0)) ?_
 refine wl_m (.tmp 0) (pt t 0) ?_
 refine wl_call 10 [(.tmp 26)] _ [pt t 0] (.int .i64 ((tr.kv.length : Int))) rfl rfl (fun _ _ => by kernel_rfl) (len_n hS hM) rfl ?_
 intro w2 hq
 replace hS := hS.mo hq
 replace hM := hM.mo hq
 replace M := M.trans hq
 clear hq
 refine wl_b .geq 3 (.tmp 25) (.tmp 27) (.int .i64 (at0)) (.int .i64 ((tr.kv.length : Int))) (.bool true) (geI q6 _ _ _) ?_
 refine wl_pick (.tmp 24) (.const (.bool true)) (.tmp 28) false (.bool true) (fun _ => rfl) rfl rfl rfl ?_
 refine w_nil (xn_then (w_condT rfl (w_seq (w_reg ?_))))
 refine wl_m (.const (.int .i64 (0))) (.int .i64 (0)) ?_
 refine wl_m (.const (.int .i64 (1))) (.int .i64 (1)) ?_
 refine w_nil (xn_then (w_ret (xr_then ?_)))
 exact w_ret2 _ _ (.int .i64 (0)) (.int .i64 (1)) rfl rfl rfl ⟨rfl, M⟩
theorem move_ok {tr : T} {id at0 : Int} (h : FT D w t mb tr lk) (hi : -9223372036854775808 ≤ id ∧ id ≤ 9223372036854775807) {k : Nat} (hq : adr tr.kv id = some k) (q4 : decide (at0 < 0) = false) (q6 : decide ((tr.kv.length : Int) ≤ at0) = false) (hlk : lk ≤ 2900000000000000000) : Calls Try.prog 16 #[pt t 0, .int .i64 id, .int .i64 at0] w fun e w' => ∃ p y kn tr1 tr' lk' D', e = .returned (.tuple #[.int .i64 p, .int .i64 0]) ∧ 0 ≤ p ∧ tr.ids[p.toNat]? = some y ∧ y.i = id ∧ Del tr y p tr1 ∧ Ins tr1 at0 y kn tr' ∧ FT D' w' t mb tr' lk' ∧ w.heap.size ≤ kn ∧ lk ≤ lk' ∧ lk' ≤ lk + 11 + 11 * tr.ht + 10 * tr1.ht ∧ Mk (fun j => D j ∨ j = mb.m) w w' ∧ ∀ j, D' j → D j ∨ w.heap.size ≤ j := by
 have hw : (Lit.int .i64 id).wf = true := WalkArith.wf_i64 ⟨hi.1, hi.2⟩
 obtain ⟨C0, y0, s0, l0, r0, hpl, hy0⟩ := kv_focus tr (adr_some hq)
 have ok0 := plug_okC C0 (tr := .n k y0 s0 l0 r0) (by rw [hpl]; exact h.ok)
 have hsz := plug_sz C0 (.n k y0 s0 l0 r0)
 have hph := plug_ht C0 (.n k y0 s0 l0 r0)
 rw [hpl] at hsz hph
 simp only [T.sz] at hsz
 have hph1 : 1 ≤ (T.n k y0 s0 l0 r0).ht := by unfold T.ht; omega
 have hle := h.le
 have hl00 := h.l0
 have hhl := tr.ht_le
 have hcn := csz_nn C0; have hl0n := T.sz_nn l0; have hr0n := T.sz_nn r0
 obtain ⟨R, root, hS, hAp, hC, hR, hn⟩ := h.ts
 have hM := h.om
 obtain ⟨⟨hd1, hkk⟩, _, _⟩ := (RS.at C0 (tr1 := .n k y0 s0 l0 r0) (R := R) (root := root) (by rw [hpl]; exact ⟨hS, hAp, hC, hR, hn⟩)).rp
 obtain ⟨yi, yv, yvs⟩ := y0
 have hyl := (hS.sv k _ hkk).2
 have hvD : ∀ b, ob yv = some b → D b := fun b hb => (hS.ds hkk (Or.inl hb)).1
 have e1 : ∃ p n c, yv = .slice p n c := by obtain ⟨p9, c9, e9, _⟩ := (hS.sv k _ hkk).1; exact ⟨p9, _, c9, e9⟩
 obtain ⟨yp, yn, yc, rfl⟩ := e1
 have hDlt : ∀ j, D j → j < w.heap.size := fun j e => hS.lt e
 have hslt : ∀ b, ob mb.h = some b → b < w.heap.size := fun b e => hS.sc.lt e
 have hmlt := hM.lt
 have hnb := hS.nb
 have hsd := hS.sd
 have hix := pre_len C0
 have hkl := tr.kv_len
 refine w_enter 45 Try.func16 Try.ntmps16 rfl rfl ?_
 have M : Mk (fun j => D j ∨ j = mb.m) w w := Mk.refl _ _
 refine w_seq (w_reg ?_)
 refine wl_m (.const (.int .i64 (0))) (.int .i64 (0)) ?_
 refine wl_m (.const (.int .i64 (0))) (.int .i64 (0)) ?_
 refine w_nil (xn_then (w_seq (w_seq (w_reg ?_))))
 refine wl_m (.tmp 0) (pt t 0) ?_
 refine wl_call 30 [(.tmp 11)] _ [pt t 0] (.bool true) rfl rfl (fun _ _ => by kernel_rfl) (made_n hS) rfl ?_
 intro w1 hq
 replace hS := hS.mo hq
 replace hM := hM.mo hq
 replace M := M.trans hq
 clear hq
 refine wl_un (fun v => Op.unary .not v) (.tmp 12) (.bool true) (.bool false) (fun _ => rfl) rfl (by kernel_rfl) rfl ?_
 refine w_nil (xn_then (w_condF rfl (w_skip (xn_then (w_seq (w_reg ?_))))))
 refine wl_m (.tmp 0) (pt t 0) ?_
 refine wl_nc (.tmp 14) t 0 rfl rfl rfl ?_
 refine wl_f 68 2 (.tmp 15) (pt t 0) (pt t 2) ?_
 refine wl_l 66 (.tmp 16) (pt t 2) (.map (some mb.m)) (run_one hS.tr 66 2 rfl Try.underlying66 rfl) ?_
 refine wl_m (.tmp 1) (.int .i64 (id)) ?_
 refine wl_bin (fun x y => Instr.lookup 66 x y false) (.tmp 17) (.tmp 18) (.map (some mb.m)) (.int .i64 (id)) (pt k 0) (fun _ => rfl) rfl rfl (by have := hM.look hw; rw [hq] at this; exact this) rfl ?_
 refine wl_m (.tmp 19) (pt k 0) ?_
 refine w_nil (xn_then (w_seq (w_seq (w_reg ?_))))
 refine wl_m (.tmp 8) (pt k 0) ?_
 refine wl_b .eql 65 (.tmp 20) (.const (.pointer none)) (pt k 0) (pp none) (.bool false) (eqP (some k) _ _ _) ?_
 refine w_nil (xn_then (w_condF rfl (w_skip (xn_then (w_seq (w_seq (w_reg ?_)))))))
 refine wl_m (.tmp 2) (.int .i64 (at0)) ?_
 refine wl_b .lss 3 (.tmp 22) (.const (.int .i64 (0))) (.int .i64 (at0)) (.int .i64 (0)) (.bool false) (ltI q4 _ _ _) ?_
 refine wl_m (.tmp 23) (.bool false) ?_
 refine wl_m (.tmp 2) (.int .i64 (at0)) ?_
 refine wl_m (.tmp 0) (pt t 0) ?_
 refine wl_call 10 [(.tmp 26)] _ [pt t 0] (.int .i64 ((tr.kv.length : Int))) rfl rfl (fun _ _ => by kernel_rfl) (len_n hS hM) rfl ?_
 intro w2 hq
 replace hS := hS.mo hq
 replace hM := hM.mo hq
 replace M := M.trans hq
 clear hq
 refine wl_b .geq 3 (.tmp 25) (.tmp 27) (.int .i64 (at0)) (.int .i64 ((tr.kv.length : Int))) (.bool false) (geI q6 _ _ _) ?_
 refine wl_pick (.tmp 24) (.const (.bool true)) (.tmp 28) false (.bool false) (fun _ => rfl) rfl rfl rfl ?_
 refine w_nil (xn_then (w_condF rfl (w_skip (xn_then (w_seq (w_reg ?_))))))
 refine wl_m (.tmp 0) (pt t 0) ?_
 refine wl_m (.tmp 8) (pt k 0) ?_
 refine wl_callg 37 [(.tmp 30), (.tmp 31)] _ [pt t 0, pt k 0] (.int .i64 (l0.sz + ix C0)) rfl rfl (fun _ _ => by kernel_rfl) (place_n (C := C0) (k := k) (i := ⟨yi, .slice yp yn yc, yvs⟩) (s := s0) (l0 := l0) (r0 := r0) (R := R) (root := root) (by rw [hpl]; exact ⟨hS, hAp, hC, hR, hn⟩) ok0.2 ok0.1 (by omega) ⟨by omega, by omega⟩) rfl ?_
 intro w3 hF
 obtain ⟨lk2, hk1, hk2, hS9, hM2⟩ := hF
 replace hM := hM.mk hM2 hS.nb
 replace M := M.tr hM2 (fun _ _ e => Or.inl e)
 replace hS := hS9
 clear hM2 hS9
 refine wl_m (.tmp 32) (.int .i64 (l0.sz + ix C0)) ?_
 refine w_nil (xn_then (w_seq (w_reg ?_)))
 refine wl_m (.tmp 8) (pt k 0) ?_
 refine wl_nc (.tmp 33) k 0 rfl rfl rfl ?_
 refine wl_f 93 0 (.tmp 34) (pt k 0) (pt k 0) ?_
 refine wl_l 83 (.tmp 35) (pt k 0) (.agg #[.int .i64 yi, .slice yp yn yc]) (run_row (hS.rc k _ hkk) 83 0 2 _ rfl Try.underlying83 rfl zs83) ?_
 refine wl_alloc 83 #[.int .i64 0, .slice none 0 0] rfl (fun _ => by kernel_rfl) rfl ?_
 intro k10 w4 hk hz hq Q10
 have hMs := M.size
 have hk10 : w.heap.size ≤ k10 := by omega
 have nd10 : ¬ D k10 := fun e => by have := hDlt _ e; omega
 have nm10 : k10 ≠ mb.m := by omega
 have ns10 : ∀ b, ob mb.h = some b → b ≠ k10 := fun b hb => by have := hslt b hb; omega
 replace hS := hS.mo hq
 replace hM := hM.mo hq
 replace M := M.trans hq
 clear hk hz hq
 refine wl_stx2 83 (.tmp 10) (.tmp 36) k10 0 #[.int .i64 yi, .slice yp yn yc] _ [.int .i64 yi, .slice yp yn yc] Q10 rfl rfl rfl rfl rfl zs83 rfl rfl rfl ?_
 intro w5 hT Qn
 replace Q10 := Qn
 have hK := Mk.st1 hT
 replace hM := hM.mk hK (Ne.symm nm10)
 replace hS := hS.kept hK (fun j e q => nd10 (q ▸ e)) (fun b hb q => ns10 b hb q)
 replace M := M.tr hK (fun j hj e => absurd e (by omega))
 clear hT hK Qn
 refine w_nil (xn_then (w_seq (w_reg ?_)))
 refine wl_m (.tmp 0) (pt t 0) ?_
 refine wl_m (.tmp 8) (pt k 0) ?_
 have hF1 := h.lkd ⟨R, root, ⟨hS, hAp, hC, hR, hn⟩⟩ hM hk1
 refine wl_callg 38 [(.tmp 37), (.tmp 38)] _ [pt t 0, pt k 0] (.tuple #[]) rfl rfl (fun _ _ => by kernel_rfl) (take_f (C := C0) (k := k) (i := ⟨yi, .slice yp yn yc, yvs⟩) (s := s0) (l := l0) (r := r0) (by rw [hpl]; exact hF1) (by omega)) rfl ?_
 intro w6 hF
 rw [hpl] at hF
 obtain ⟨tr2, lk3, D2, hD, hF2, hk3, hk4, hM2, hD1, hD2, hRv⟩ := hF
 replace M := M.same hM2
 replace Q10 := hM2.at Q10 (fun e => e.elim nd10 nm10)
 clear hM2
 obtain ⟨X, Y, hX1, hX2, hX3⟩ := hD.ids
 have hnd := h.nd
 rw [hX1] at hnd
 simp only [List.map_append, List.map_cons] at hnd
 have hnot : yi ∉ tr2.ids.map (·.i) := by rw [hX3, List.map_append]; exact (List.nodup_cons.1 (List.perm_middle.nodup_iff.1 hnd)).1
 have hr0 := h.rg yi (by rw [hX1]; simp)
 have hz1 := tr.sz_ids
 have hz2 := tr2.sz_ids
 rw [hX1, List.length_append, List.length_cons] at hz1
 rw [hX3, List.length_append] at hz2
 have hht2 := tr2.ht_le
 refine w_nil (xn_then (w_seq (w_reg ?_)))
 refine wl_m (.tmp 0) (pt t 0) ?_
 refine wl_m (.tmp 2) (.int .i64 (at0)) ?_
 refine wl_l 83 (.tmp 10) (pt k10 0) (.agg #[.int .i64 yi, .slice yp yn yc]) (run_row Q10 83 0 2 _ rfl Try.underlying83 rfl zs83) ?_
 refine wl_callg 31 [(.tmp 40), (.tmp 41), (.tmp 42)] _ [pt t 0, .int .i64 (at0), .agg #[.int .i64 yi, .slice yp yn yc]] (.tuple #[]) rfl rfl (fun _ _ => by kernel_rfl) (put_f hF2 hnot hr0.1 hr0.2 (by omega) (by have := of_decide_eq_false q4; omega) (by have := of_decide_eq_false q6; omega) (by omega) ⟨hRv, hyl⟩ (fun b hb => ⟨hD2 b hb, fun e => hnb (e ▸ hvD b hb), fun e => hsd b e (hvD b hb)⟩)) rfl ?_
 intro w7 hF
 obtain ⟨kn, tr3, lk4, D3, hI, hF3, hkn, hk5, hk6, hM2, hD3⟩ := hF
 have hMs3 := M.size
 replace hkn := Nat.le_trans M.size hkn
 replace M := M.tr hM2 (fun j _ e => by rcases e with e | e | e; exact Or.inl (hD1 j e); exact Or.inr e; exact Or.inl (hvD j e))
 clear hM2
 refine w_nil (xn_then (w_seq (w_reg ?_)))
 refine wl_m (.tmp 9) (.int .i64 (l0.sz + ix C0)) ?_
 refine wl_m (.tmp 44) (.int .i64 (l0.sz + ix C0)) ?_
 refine wl_m (.const (.int .i64 (0))) (.int .i64 (0)) ?_
 refine w_nil (xn_then (w_ret ?_))
 exact w_ret2 _ _ (.int .i64 (l0.sz + ix C0)) (.int .i64 (0)) rfl rfl rfl ⟨l0.sz + ix C0, ⟨yi, .slice yp yn yc, yvs⟩, kn, tr2, tr3, lk4, D3, rfl, by omega, by rw [← hpl]; exact ids_at, hy0, hD, hI, hF3, hkn, by omega, by omega, M, fun j e => by rcases hD3 j e with e | e | e; exact Or.inl (hD1 j e); exact Or.inr (by omega); exact Or.inl (hvD j e)⟩
end
end G
end Go.Proofs.Ythfemlhmnjfjiaa
/-
 slices.Clone: rows in a new block.
-/
namespace Go.Proofs.Ythfemlhmnjfjiaa
open Go.RowKit
namespace G
theorem flat_at {m : Nat} : ∀ {L : List (List Value)}, (∀ x ∈ L, x.length = m) → ∀ {k j : Nat} {cs : List Value}, L[k]? = some cs → j < m → L.flatten[k * m + j]? = cs[j]?
 | [], _, k, j, cs, h, _ => by cases h
 | x :: L, hL, 0, j, cs, h, hj => by
  cases h
  rw [List.flatten_cons, List.getElem?_append_left (by have := hL x (by simp); omega)]
  congr 1; omega
 | x :: L, hL, k + 1, j, cs, h, hj => by
  have hx := hL x (by simp)
  rw [List.flatten_cons, List.getElem?_append_right (by rw [hx, Nat.succ_mul]; omega), hx, show (k + 1) * m + j - m = k * m + j by rw [Nat.succ_mul]; omega]
  exact flat_at (fun y hy => hL y (by simp [hy])) h hj
theorem flat_len {m : Nat} : ∀ {L : List (List Value)}, (∀ x ∈ L, x.length = m) → L.flatten.length = L.length * m
 | [], _ => by simp
 | x :: L, hL => by
  rw [List.flatten_cons, List.length_append, hL x (by simp), flat_len (fun y hy => hL y (by simp [hy])), List.length_cons, Nat.succ_mul]; omega
theorem app_cl (t e : TypeId) (i : TypeInfo) (z : Value) (m B : Nat) (ht : Try.prog.underlying t = some (.slice e)) (hi : Try.prog.info? e = some i) (hz : i.zero = some z) (hs : i.size = m) (hby : i.bytes = B) (hm : 0 < m) (ty : TypeId) (w : World) (g b off c : Nat) (L : List (List Value)) (hL : ∀ x ∈ L, x.length = m) (hne : L ≠ [])
  (hr : ∀ k cs, L[k]? = some cs → w.rangeAt b (off + k * m) cs) (hB : (L.length + L.length / 4 + 192) * B ≤ 281474976710656) (h63 : L.length ≤ 1000000000000) :
  ∃ cap w', (Builtin.append_ #[t, t] ty #[.slice (some ⟨g, 0, none⟩) 0 0, .slice (some ⟨b, off, none⟩) L.length c]).run Try.prog w = .ok (.slice (some ⟨w.heap.size, 0, none⟩) L.length cap) w' ∧ Rw w' m (.slice (some ⟨w.heap.size, 0, none⟩) L.length cap) L ∧ Mo w w' := by
 have hfl := flat_len hL
 have hn0 : 0 < L.length := List.length_pos_iff.2 hne
 have hnews : ∀ j u, L.flatten[j]? = some u → w.cell? ((⟨b, off, none⟩ : Addr).add j) = some u := fun j u hu => by
  have hj : j < L.length * m := by rw [← hfl]; exact (List.getElem?_eq_some_iff.1 hu).1
  have hq : j / m < L.length := Nat.div_lt_of_lt_mul (by rw [Nat.mul_comm]; exact hj)
  have hjm := Nat.mod_lt j hm
  have hdm : j / m * m + j % m = j := by rw [Nat.mul_comm]; exact Nat.div_add_mod j m
  have h2 := flat_at hL (List.getElem?_eq_getElem hq) hjm
  rw [hdm, hu] at h2
  have h3 := hr (j / m) _ (List.getElem?_eq_getElem hq) (j % m) u h2.symm
  rw [Addr.add_mid, ← show off + j / m * m + j % m = off + j by omega]
  exact h3
 have hrun := run_append_grow (P := Try.prog) w t ty e i z ht hi hz ⟨g, 0, none⟩ 0 0 [] (by simp) (fun j u hu => by cases hu) ⟨b, off, none⟩ L.length c L.flatten (by rw [hs]; exact hfl) hnews (by omega) (by omega) (by rw [hby, Nat.zero_add]; exact growslice_fits_wide hn0 hB)
 simp only [Nat.zero_add] at hrun
 refine ⟨_, _, hrun, ⟨_, _, rfl, fun _ => ⟨w.heap.size, 0, rfl, ?_, ?_, fun k cs hk j v hv => ?_⟩⟩, (Mo.refl _).drew.alloc _ _⟩
 ·exact (At.new w.drew _ e).2.2
 ·exact (At.new w.drew _ e).2.1
 ·have hj : j < m := by rw [← hL cs (List.mem_of_getElem? hk)]; exact (List.getElem?_eq_some_iff.1 hv).1
  have h2 := flat_at hL hk hj
  rw [hv] at h2
  have hlt := (List.getElem?_eq_some_iff.1 h2).1
  rw [show 0 + k * m + j = 0 + (k * m + j) by omega]
  refine (At.new w.drew _ e).1 (k * m + j) v ?_
  rw [Array.toList_append, List.getElem?_append_left (by simpa using hlt)]
  simpa using h2
end G
end Go.Proofs.Ythfemlhmnjfjiaa
/-
 slices.Clone of values, whole numbers and summaries.
-/
namespace Go.Proofs.Ythfemlhmnjfjiaa
open Go.RowKit
namespace G
section
variable {o : Oper} {n : Nat} {l : List (Nat × Value)} {w : World} {ops : Array Oper} {rest : List Oper} {Q : Exit → Act → World → Prop}
theorem wl_bs0 {t e : TypeId} (hb : ∀ w, (Instr.buildSlice t 0 #[]).run Try.prog w = .ok (.slice (some ⟨w.heap.size, 0, none⟩) 0 0) (w.alloc (.cells #[] e))) (ho : o.op = .buildSlice t 0 #[]) (hg : wnt n l ops o = true)
  (hk : ∀ k w', w.heap.size = k → Mo w w' → WL Try.prog ops Q rest n (ext l o.dst (.slice (some ⟨k, 0, none⟩) 0 0)) w') : WL Try.prog ops Q (o :: rest) n l w :=
 ⟨l_step hg (o_val (.slice (some ⟨w.heap.size, 0, none⟩) 0 0) (w' := w.alloc (.cells #[] e)) (by simp [execOp, ho, hb]) (hk _ _ rfl ((Mo.refl _).alloc _ _)).out)⟩
theorem wl_ap {t : TypeId} (s x : Operand) (v v2 v' : Value) {w' : World} (ho : o.op = .call { callee := .builtin .append, args := #[s, x], argTypes := #[t, t] }) (hs : evl n l s = v) (hx : evl n l x = v2) (hr : (Builtin.append_ #[t, t] o.type #[v, v2]).run Try.prog w = .ok v' w') (hg : wnt n l ops o = true)
  (hk : WL Try.prog ops Q rest n (ext l o.dst v') w') : WL Try.prog ops Q (o :: rest) n l w := by
 refine ⟨l_step hg (o_val v' (w' := w') ?_ hk.out)⟩
 unfold execOp
 simp only [ho, resolve, invoke, builtin, Sem.run_bind, Sem.run_pure, Result.andThen_ok, List.map_toArray, List.map_cons, List.map_nil, hs, hx, hr]
end
theorem Rw.nil {w : World} {m : Nat} (p : Option Addr) (c : Nat) : Rw w m (.slice p 0 c) [] := ⟨p, c, rfl, fun h => absurd rfl h⟩
section
variable {w : World}
theorem bz29 (w : World) : (Instr.buildSlice 29 0 #[]).run Try.prog w = .ok (.slice (some ⟨w.heap.size, 0, none⟩) 0 0) (w.alloc (.cells #[] 55)) := by kernel_rfl
theorem es29 (a : Addr) (n c : Nat) (x y : Operand) (w : World) : (do eqGuard .eql 29 x y (.slice (some a) n c) (.slice none 0 0); binOp .eql 29 (.slice (some a) n c) (.slice none 0 0)).run Try.prog w = .ok (.bool false) w := by kernel_rfl
theorem en29 (n c : Nat) (x y : Operand) (w : World) : (do eqGuard .eql 29 x y (.slice none n c) (.slice none 0 0); binOp .eql 29 (.slice none n c) (.slice none 0 0)).run Try.prog w = .ok (.bool true) w := by kernel_rfl
theorem az29 (g : Nat) (a : Addr) (c : Nat) (ty : TypeId) (w : World) : (Builtin.append_ #[29, 29] ty #[.slice (some ⟨g, 0, none⟩) 0 0, .slice (some a) 0 c]).run Try.prog w = .ok (.slice (some ⟨g, 0, none⟩) 0 0) w := by kernel_rfl
theorem ib55 : ∃ i z, Try.prog.info? 55 = some i ∧ i.zero = some z ∧ i.size = 10 ∧ i.bytes = 88 := by
 have h : (Try.prog.info? 55).map (fun i => (i.zero.isSome, i.size, i.bytes)) = some (true, 10, 88) := by kernel_rfl
 cases hi : Try.prog.info? 55 with
 | none => rw [hi] at h; cases h
 | some i =>
  rw [hi] at h
  simp only [Option.map_some, Option.some.injEq, Prod.mk.injEq] at h
  obtain ⟨z, hz⟩ := Option.isSome_iff_exists.1 h.1
  exact ⟨i, z, rfl, hz, h.2.1, h.2.2⟩
theorem clv_0 (c : Nat) : Calls Try.prog 22 #[.slice none 0 c] w fun e w' => ∃ p' c', e = .returned (.slice p' 0 c') ∧ Rw w' 10 (.slice p' 0 c') [] ∧ (∀ b, ob (.slice p' 0 c') = some b → w.heap.size ≤ b) ∧ Mo w w' := by
 refine w_enter 8 Try.func22 Try.ntmps22 rfl rfl ?_
 have M : Mo w w := Mo.refl _
 refine w_seq (w_reg ?_)
 refine wl_m (.const (.slice none 0 0)) (.slice none 0 0) ?_
 refine w_nil (xn_then (w_seq (w_seq (w_reg ?_))))
 refine wl_m (.tmp 0) (.slice none 0 c) ?_
 refine wl_b .eql 29 (.tmp 3) (.const (.slice none 0 0)) (.slice none 0 c) (.slice none 0 0) (.bool true) (en29 _ _ _ _ _) ?_
 refine w_nil (xn_then (w_condT rfl (w_seq (w_reg ?_))))
 refine wl_m (.const (.slice none 0 0)) (.slice none 0 0) ?_
 refine w_nil (xn_then (w_ret (xr_then ?_)))
 exact w_ret1 _ (.slice none 0 0) rfl rfl ⟨none, 0, rfl, Rw.nil _ _, (fun _ h => by cases h), M⟩
theorem clv_1 (a : Addr) (c : Nat) : Calls Try.prog 22 #[.slice (some a) 0 c] w fun e w' => ∃ p' c', e = .returned (.slice p' 0 c') ∧ Rw w' 10 (.slice p' 0 c') [] ∧ (∀ b, ob (.slice p' 0 c') = some b → w.heap.size ≤ b) ∧ Mo w w' := by
 refine w_enter 8 Try.func22 Try.ntmps22 rfl rfl ?_
 have M : Mo w w := Mo.refl _
 refine w_seq (w_reg ?_)
 refine wl_m (.const (.slice none 0 0)) (.slice none 0 0) ?_
 refine w_nil (xn_then (w_seq (w_seq (w_reg ?_))))
 refine wl_m (.tmp 0) (.slice (some a) 0 c) ?_
 refine wl_b .eql 29 (.tmp 3) (.const (.slice none 0 0)) (.slice (some a) 0 c) (.slice none 0 0) (.bool false) (es29 _ _ _ _ _ _) ?_
 refine w_nil (xn_then (w_condF rfl (w_skip (xn_then (w_seq (w_reg ?_))))))
 refine wl_bs0 bz29 rfl rfl ?_
 intro g w1 hg hq
 replace M := M.trans hq
 have hgs : w.heap.size ≤ g := by omega
 clear hq
 refine wl_m (.tmp 0) (.slice (some a) 0 c) ?_
 refine wl_ap (.tmp 5) (.tmp 6) (.slice (some ⟨g, 0, none⟩) 0 0) (.slice (some a) 0 c) (.slice (some ⟨g, 0, none⟩) 0 0) rfl rfl rfl (az29 g a c _ _) rfl ?_
 refine wl_m (.tmp 7) (.slice (some ⟨g, 0, none⟩) 0 0) ?_
 refine w_nil (xn_then (w_ret ?_))
 exact w_ret1 _ (.slice (some ⟨g, 0, none⟩) 0 0) rfl rfl ⟨some ⟨g, 0, none⟩, 0, rfl, Rw.nil _ _, (fun _ h => by cases h), M⟩
theorem clv_2 (b off c : Nat) (L : List (List Value)) (hL : ∀ x ∈ L, x.length = 10) (hne : L ≠ []) (hbl : b < w.heap.size) (hr : ∀ k cs, L[k]? = some cs → w.rangeAt b (off + k * 10) cs) (hn : L.length ≤ 1000000) : Calls Try.prog 22 #[.slice (some ⟨b, off, none⟩) L.length c] w fun e w' => ∃ p' c', e = .returned (.slice p' L.length c') ∧ Rw w' 10 (.slice p' L.length c') L ∧ (∀ b, ob (.slice p' L.length c') = some b → w.heap.size ≤ b) ∧ Mo w w' := by
 obtain ⟨i, z, hi, hz, hs, hby⟩ := ib55
 refine w_enter 8 Try.func22 Try.ntmps22 rfl rfl ?_
 have M : Mo w w := Mo.refl _
 refine w_seq (w_reg ?_)
 refine wl_m (.const (.slice none 0 0)) (.slice none 0 0) ?_
 refine w_nil (xn_then (w_seq (w_seq (w_reg ?_))))
 refine wl_m (.tmp 0) (.slice (some ⟨b, off, none⟩) L.length c) ?_
 refine wl_b .eql 29 (.tmp 3) (.const (.slice none 0 0)) (.slice (some ⟨b, off, none⟩) L.length c) (.slice none 0 0) (.bool false) (es29 _ _ _ _ _ _) ?_
 refine w_nil (xn_then (w_condF rfl (w_skip (xn_then (w_seq (w_reg ?_))))))
 refine wl_bs0 bz29 rfl rfl ?_
 intro g w1 hg hq
 replace M := M.trans hq
 replace hr : ∀ k cs, L[k]? = some cs → _ := fun k cs h => (fun j v hv => (hq.cell b _ hbl).trans (hr k cs h j v hv) : World.rangeAt w1 b (off + k * 10) cs)
 have hgs : w.heap.size ≤ g := by omega
 clear hq
 refine wl_m (.tmp 0) (.slice (some ⟨b, off, none⟩) L.length c) ?_
 obtain ⟨cap, w9, hrun, hRw, hq⟩ := app_cl 29 55 i z 10 88 Try.underlying29 hi hz hs hby (by decide) 29 w1 g b off c L hL hne hr (by omega) (by omega)
 refine wl_ap (.tmp 5) (.tmp 6) (.slice (some ⟨g, 0, none⟩) 0 0) (.slice (some ⟨b, off, none⟩) L.length c) _ rfl rfl rfl hrun rfl ?_
 have hMs := M.size
 replace M := M.trans hq
 refine wl_m (.tmp 7) (.slice (some ⟨w1.heap.size, 0, none⟩) L.length cap) ?_
 refine w_nil (xn_then (w_ret ?_))
 exact w_ret1 _ (.slice (some ⟨w1.heap.size, 0, none⟩) L.length cap) rfl rfl ⟨_, cap, rfl, hRw, (fun b9 h9 => by obtain ⟨a9, q9, c9, e1, e2⟩ := ob_some h9; rw [Value.slice.injEq] at e1; have e3 := e1.1; cases e3; subst e2; exact hMs), M⟩
theorem clv_n {p : Option Addr} {c : Nat} {L : List (List Value)} (hL : ∀ x ∈ L, x.length = 10) (hr : ∀ k cs, L[k]? = some cs → ∃ b off, p = some ⟨b, off, none⟩ ∧ b < w.heap.size ∧ w.rangeAt b (off + k * 10) cs) (hn : L.length ≤ 1000000) : Calls Try.prog 22 #[.slice p L.length c] w fun e w' => ∃ p' c', e = .returned (.slice p' L.length c') ∧ Rw w' 10 (.slice p' L.length c') L ∧ (∀ b, ob (.slice p' L.length c') = some b → w.heap.size ≤ b) ∧ Mo w w' := by
 cases L with
 | nil =>
  cases p with
  | none => exact clv_0 c
  | some a => exact clv_1 a c
 | cons x L =>
  obtain ⟨b, off, rfl, hbl, _⟩ := hr 0 x rfl
  exact clv_2 b off c (x :: L) hL (by simp) hbl (fun k cs h => by obtain ⟨b2, off2, e, _, h2⟩ := hr k cs h; cases e; exact h2) hn
theorem bz22 (w : World) : (Instr.buildSlice 22 0 #[]).run Try.prog w = .ok (.slice (some ⟨w.heap.size, 0, none⟩) 0 0) (w.alloc (.cells #[] 3)) := by kernel_rfl
theorem es22 (a : Addr) (n c : Nat) (x y : Operand) (w : World) : (do eqGuard .eql 22 x y (.slice (some a) n c) (.slice none 0 0); binOp .eql 22 (.slice (some a) n c) (.slice none 0 0)).run Try.prog w = .ok (.bool false) w := by kernel_rfl
theorem en22 (n c : Nat) (x y : Operand) (w : World) : (do eqGuard .eql 22 x y (.slice none n c) (.slice none 0 0); binOp .eql 22 (.slice none n c) (.slice none 0 0)).run Try.prog w = .ok (.bool true) w := by kernel_rfl
theorem az22 (g : Nat) (a : Addr) (c : Nat) (ty : TypeId) (w : World) : (Builtin.append_ #[22, 22] ty #[.slice (some ⟨g, 0, none⟩) 0 0, .slice (some a) 0 c]).run Try.prog w = .ok (.slice (some ⟨g, 0, none⟩) 0 0) w := by kernel_rfl
theorem ib3 : ∃ i z, Try.prog.info? 3 = some i ∧ i.zero = some z ∧ i.size = 1 ∧ i.bytes = 8 := by
 have h : (Try.prog.info? 3).map (fun i => (i.zero.isSome, i.size, i.bytes)) = some (true, 1, 8) := by kernel_rfl
 cases hi : Try.prog.info? 3 with
 | none => rw [hi] at h; cases h
 | some i =>
  rw [hi] at h
  simp only [Option.map_some, Option.some.injEq, Prod.mk.injEq] at h
  obtain ⟨z, hz⟩ := Option.isSome_iff_exists.1 h.1
  exact ⟨i, z, rfl, hz, h.2.1, h.2.2⟩
theorem cli_0 (c : Nat) : Calls Try.prog 29 #[.slice none 0 c] w fun e w' => ∃ p' c', e = .returned (.slice p' 0 c') ∧ Rw w' 1 (.slice p' 0 c') [] ∧ (∀ b, ob (.slice p' 0 c') = some b → w.heap.size ≤ b) ∧ Mo w w' := by
 refine w_enter 8 Try.func29 Try.ntmps29 rfl rfl ?_
 have M : Mo w w := Mo.refl _
 refine w_seq (w_reg ?_)
 refine wl_m (.const (.slice none 0 0)) (.slice none 0 0) ?_
 refine w_nil (xn_then (w_seq (w_seq (w_reg ?_))))
 refine wl_m (.tmp 0) (.slice none 0 c) ?_
 refine wl_b .eql 22 (.tmp 3) (.const (.slice none 0 0)) (.slice none 0 c) (.slice none 0 0) (.bool true) (en22 _ _ _ _ _) ?_
 refine w_nil (xn_then (w_condT rfl (w_seq (w_reg ?_))))
 refine wl_m (.const (.slice none 0 0)) (.slice none 0 0) ?_
 refine w_nil (xn_then (w_ret (xr_then ?_)))
 exact w_ret1 _ (.slice none 0 0) rfl rfl ⟨none, 0, rfl, Rw.nil _ _, (fun _ h => by cases h), M⟩
theorem cli_1 (a : Addr) (c : Nat) : Calls Try.prog 29 #[.slice (some a) 0 c] w fun e w' => ∃ p' c', e = .returned (.slice p' 0 c') ∧ Rw w' 1 (.slice p' 0 c') [] ∧ (∀ b, ob (.slice p' 0 c') = some b → w.heap.size ≤ b) ∧ Mo w w' := by
 refine w_enter 8 Try.func29 Try.ntmps29 rfl rfl ?_
 have M : Mo w w := Mo.refl _
 refine w_seq (w_reg ?_)
 refine wl_m (.const (.slice none 0 0)) (.slice none 0 0) ?_
 refine w_nil (xn_then (w_seq (w_seq (w_reg ?_))))
 refine wl_m (.tmp 0) (.slice (some a) 0 c) ?_
 refine wl_b .eql 22 (.tmp 3) (.const (.slice none 0 0)) (.slice (some a) 0 c) (.slice none 0 0) (.bool false) (es22 _ _ _ _ _ _) ?_
 refine w_nil (xn_then (w_condF rfl (w_skip (xn_then (w_seq (w_reg ?_))))))
 refine wl_bs0 bz22 rfl rfl ?_
 intro g w1 hg hq
 replace M := M.trans hq
 have hgs : w.heap.size ≤ g := by omega
 clear hq
 refine wl_m (.tmp 0) (.slice (some a) 0 c) ?_
 refine wl_ap (.tmp 5) (.tmp 6) (.slice (some ⟨g, 0, none⟩) 0 0) (.slice (some a) 0 c) (.slice (some ⟨g, 0, none⟩) 0 0) rfl rfl rfl (az22 g a c _ _) rfl ?_
 refine wl_m (.tmp 7) (.slice (some ⟨g, 0, none⟩) 0 0) ?_
 refine w_nil (xn_then (w_ret ?_))
 exact w_ret1 _ (.slice (some ⟨g, 0, none⟩) 0 0) rfl rfl ⟨some ⟨g, 0, none⟩, 0, rfl, Rw.nil _ _, (fun _ h => by cases h), M⟩
theorem cli_2 (b off c : Nat) (L : List (List Value)) (hL : ∀ x ∈ L, x.length = 1) (hne : L ≠ []) (hbl : b < w.heap.size) (hr : ∀ k cs, L[k]? = some cs → w.rangeAt b (off + k * 1) cs) (hn : L.length ≤ 1000000) : Calls Try.prog 29 #[.slice (some ⟨b, off, none⟩) L.length c] w fun e w' => ∃ p' c', e = .returned (.slice p' L.length c') ∧ Rw w' 1 (.slice p' L.length c') L ∧ (∀ b, ob (.slice p' L.length c') = some b → w.heap.size ≤ b) ∧ Mo w w' := by
 obtain ⟨i, z, hi, hz, hs, hby⟩ := ib3
 refine w_enter 8 Try.func29 Try.ntmps29 rfl rfl ?_
 have M : Mo w w := Mo.refl _
 refine w_seq (w_reg ?_)
 refine wl_m (.const (.slice none 0 0)) (.slice none 0 0) ?_
 refine w_nil (xn_then (w_seq (w_seq (w_reg ?_))))
 refine wl_m (.tmp 0) (.slice (some ⟨b, off, none⟩) L.length c) ?_
 refine wl_b .eql 22 (.tmp 3) (.const (.slice none 0 0)) (.slice (some ⟨b, off, none⟩) L.length c) (.slice none 0 0) (.bool false) (es22 _ _ _ _ _ _) ?_
 refine w_nil (xn_then (w_condF rfl (w_skip (xn_then (w_seq (w_reg ?_))))))
 refine wl_bs0 bz22 rfl rfl ?_
 intro g w1 hg hq
 replace M := M.trans hq
 replace hr : ∀ k cs, L[k]? = some cs → _ := fun k cs h => (fun j v hv => (hq.cell b _ hbl).trans (hr k cs h j v hv) : World.rangeAt w1 b (off + k * 1) cs)
 have hgs : w.heap.size ≤ g := by omega
 clear hq
 refine wl_m (.tmp 0) (.slice (some ⟨b, off, none⟩) L.length c) ?_
 obtain ⟨cap, w9, hrun, hRw, hq⟩ := app_cl 22 3 i z 1 8 Try.underlying22 hi hz hs hby (by decide) 22 w1 g b off c L hL hne hr (by omega) (by omega)
 refine wl_ap (.tmp 5) (.tmp 6) (.slice (some ⟨g, 0, none⟩) 0 0) (.slice (some ⟨b, off, none⟩) L.length c) _ rfl rfl rfl hrun rfl ?_
 have hMs := M.size
 replace M := M.trans hq
 refine wl_m (.tmp 7) (.slice (some ⟨w1.heap.size, 0, none⟩) L.length cap) ?_
 refine w_nil (xn_then (w_ret ?_))
 exact w_ret1 _ (.slice (some ⟨w1.heap.size, 0, none⟩) L.length cap) rfl rfl ⟨_, cap, rfl, hRw, (fun b9 h9 => by obtain ⟨a9, q9, c9, e1, e2⟩ := ob_some h9; rw [Value.slice.injEq] at e1; have e3 := e1.1; cases e3; subst e2; exact hMs), M⟩
theorem cli_n {p : Option Addr} {c : Nat} {L : List (List Value)} (hL : ∀ x ∈ L, x.length = 1) (hr : ∀ k cs, L[k]? = some cs → ∃ b off, p = some ⟨b, off, none⟩ ∧ b < w.heap.size ∧ w.rangeAt b (off + k * 1) cs) (hn : L.length ≤ 1000000) : Calls Try.prog 29 #[.slice p L.length c] w fun e w' => ∃ p' c', e = .returned (.slice p' L.length c') ∧ Rw w' 1 (.slice p' L.length c') L ∧ (∀ b, ob (.slice p' L.length c') = some b → w.heap.size ≤ b) ∧ Mo w w' := by
 cases L with
 | nil =>
  cases p with
  | none => exact cli_0 c
  | some a => exact cli_1 a c
 | cons x L =>
  obtain ⟨b, off, rfl, hbl, _⟩ := hr 0 x rfl
  exact cli_2 b off c (x :: L) hL (by simp) hbl (fun k cs h => by obtain ⟨b2, off2, e, _, h2⟩ := hr k cs h; cases e; exact h2) hn
end
end G
end Go.Proofs.Ythfemlhmnjfjiaa
/-
 The tree's New; the document's Bits.
-/
namespace Go.Proofs.Ythfemlhmnjfjiaa
open Go.RowKit
namespace G
theorem Mo.allocm (w : World) : Mo w (w.alloc (.map #[] 0)) := ⟨(Below.refl _ _).alloc (Nat.le_refl _) _, fun a => frozen?_alloc_map w #[] 0 a⟩
section
variable {o : Oper} {n : Nat} {l : List (Nat × Value)} {w : World} {ops : Array Oper} {rest : List Oper} {Q : Exit → Act → World → Prop}
theorem wl_mkm (ho : o.op = .makeMap 66 none) (hg : wnt n l ops o = true)
  (hk : ∀ b w', w.heap.size = b → w'.heap.size = b + 1 → Mo w w' → OM w' b (fun _ => none) 0 → WL Try.prog ops Q rest n (ext l o.dst (.map (some b))) w') : WL Try.prog ops Q (o :: rest) n l w :=
 ⟨l_step hg (o_val (.map (some w.heap.size)) (w' := w.alloc (.map #[] 0)) (by
  have h57 := run_makeMap (P := Try.prog) 66 w
  simp [execOp, ho, h57]) (hk _ _ rfl (by simp) (Mo.allocm w) (OM.new w)).out)⟩
theorem wl_boxc (ty : TypeId) (x : Operand) (v : Value) (cs : Array Value) (ho : o.op = .box ty x) (hx : evl n l x = v) (h : ∀ w, (Instr.box ty v).run Try.prog w = .ok (pt w.heap.size 0) (w.alloc (.cells cs ty))) (hg : wnt n l ops o = true)
  (hk : ∀ k w', w.heap.size = k → Mo w w' → At w' k cs.toList → Cb w' k → WL Try.prog ops Q rest n (ext l o.dst (pt k 0)) w') : WL Try.prog ops Q (o :: rest) n l w :=
 ⟨l_step hg (wo_boxc ty x v cs ho hx h (fun k w' a b c d => (hk k w' a b c d).out)).out⟩
end
section
variable {w : World}
def SN (w : World) (p : Option Addr) (L : List Int) : Prop := ∀ k x, L[k]? = some x → ∃ b off, p = some ⟨b, off, none⟩ ∧ b < w.heap.size ∧ w.rangeAt b (off + k * 1) [.int .i64 x]
theorem SN.mo {w' : World} {p : Option Addr} {L : List Int} (h : SN w p L) (m : Mo w w') : SN w' p L := fun k x e => by
 obtain ⟨b, off, h1, h2, h3⟩ := h k x e
 exact ⟨b, off, h1, Nat.lt_of_lt_of_le h2 m.size, fun j v hv => (m.cell b _ h2).trans (h3 j v hv)⟩
theorem cli_sc {p : Option Addr} {c : Nat} {sc : List Int} (hr : SN w p sc) (hn : sc.length ≤ 1000000) : Calls Try.prog 29 #[.slice p sc.length c] w fun e w' => ∃ p' c', e = .returned (.slice p' sc.length c') ∧ Rw w' 1 (.slice p' sc.length c') (sc.map (fun x => [.int .i64 x])) ∧ (∀ b, ob (.slice p' sc.length c') = some b → w.heap.size ≤ b) ∧ Mo w w' := by
 have h := cli_n (w := w) (p := p) (c := c) (L := sc.map (fun x => [Value.int .i64 x])) (fun x hx => by obtain ⟨y, _, rfl⟩ := List.mem_map.1 hx; rfl) (fun k cs hk => by
  rw [List.getElem?_map] at hk
  obtain ⟨x, hx, rfl⟩ := Option.map_eq_some_iff.1 hk
  exact hr k x hx) (by rw [List.length_map]; exact hn)
 rw [List.length_map] at h
 exact h
theorem new_no {p : Option Addr} {c : Nat} {sc : List Int} (hgt : decide ((64 : Int) < (sc.length : Int)) = true) : Calls Try.prog 7 #[.slice p sc.length c] w fun e w' => e = .returned (.tuple #[pp none, .int .i64 3]) ∧ Mo w w' := by
 refine w_enter 12 Try.func7 Try.ntmps7 rfl rfl ?_
 have M : Mo w w := Mo.refl _
 refine w_seq (w_reg ?_)
 refine wl_m (.const (.pointer none)) (pp none) ?_
 refine wl_m (.const (.int .i64 (0))) (.int .i64 (0)) ?_
 refine w_nil (xn_then (w_seq (w_seq (w_reg ?_))))
 refine wl_m (.tmp 0) (.slice p sc.length c) ?_
 refine wl_val (.int .i64 ((sc.length : Nat) : Int)) (len22 _ _ _ _ _ (by exact rfl) _ _ _ _ _ _) rfl ?_
 refine wl_b .gtr 3 (.tmp 5) (.const (.int .i64 (64))) (.int .i64 ((sc.length : Nat) : Int)) (.int .i64 (64)) (.bool true) (gtI hgt _ _ _) ?_
 refine w_nil (xn_then (w_condT rfl (w_seq (w_reg ?_))))
 refine wl_m (.const (.pointer none)) (pp none) ?_
 refine wl_m (.const (.int .i64 (3))) (.int .i64 (3)) ?_
 refine w_nil (xn_then (w_ret (xr_then ?_)))
 exact w_ret2 _ _ (pp none) (.int .i64 (3)) rfl rfl rfl ⟨rfl, M⟩
theorem new_ok {p : Option Addr} {c : Nat} {sc : List Int} (hr : SN w p sc) (hgt : decide ((64 : Int) < (sc.length : Int)) = false) : Calls Try.prog 7 #[.slice p sc.length c] w fun e w' => ∃ (t : Nat) (mb : Hd) (D : Nat → Prop), e = .returned (.tuple #[pt t 0, .int .i64 0]) ∧ FT D w' t mb .e 0 ∧ mb.sc = sc ∧ (∀ j, D j → w.heap.size ≤ j) ∧ w.heap.size ≤ mb.m ∧ (∀ b, ob mb.h = some b → w.heap.size ≤ b) ∧ Mo w w' := by
 have hn64 := of_decide_eq_false hgt
 refine w_enter 12 Try.func7 Try.ntmps7 rfl rfl ?_
 have M : Mo w w := Mo.refl _
 refine w_seq (w_reg ?_)
 refine wl_m (.const (.pointer none)) (pp none) ?_
 refine wl_m (.const (.int .i64 (0))) (.int .i64 (0)) ?_
 refine w_nil (xn_then (w_seq (w_seq (w_reg ?_))))
 refine wl_m (.tmp 0) (.slice p sc.length c) ?_
 refine wl_val (.int .i64 ((sc.length : Nat) : Int)) (len22 _ _ _ _ _ (by exact rfl) _ _ _ _ _ _) rfl ?_
 refine wl_b .gtr 3 (.tmp 5) (.const (.int .i64 (64))) (.int .i64 ((sc.length : Nat) : Int)) (.int .i64 (64)) (.bool false) (gtI hgt _ _ _) ?_
 refine w_nil (xn_then (w_condF rfl (w_skip (xn_then (w_seq (w_reg ?_))))))
 refine wl_m (.tmp 0) (.slice p sc.length c) ?_
 refine wl_callx 29 [(.tmp 7)] _ [.slice p sc.length c] rfl rfl (fun _ _ => by kernel_rfl) (cli_sc hr (by omega)) rfl ?_
 rintro _ w1 ⟨p', c', rfl, hRw, hob, hq⟩
 refine ⟨_, rfl, ?_⟩
 replace M := M.trans hq
 clear hq
 refine wl_mkm rfl rfl ?_
 intro m w2 hb hz hq hM
 have hMs := M.size
 have hmb : w.heap.size ≤ m := by omega
 have hmo : ob (.slice p' sc.length c') ≠ some m := fun e => by have := hRw.lt e; omega
 replace hRw := hRw.mo hq
 replace M := M.trans hq
 clear hz hq
 refine wl_build 68 [(0, (.tmp 8)), (2, (.tmp 9))] [(0, Value.slice p' sc.length c'), (2, .map (some m))] (.agg #[Value.slice p' sc.length c', .pointer none, .map (some m), .int .i64 0]) rfl rfl (by kernel_rfl) rfl ?_
 refine wl_boxc 68 (.tmp 10) (.agg #[Value.slice p' sc.length c', .pointer none, .map (some m), .int .i64 0]) (#[Value.slice p' sc.length c', .pointer none, .map (some m), .int .i64 0]) rfl rfl (fun _ => by kernel_rfl) rfl ?_
 intro t w3 hk hq hA hcb
 have hmt : m < t := by have := hM.lt; omega
 have hMs2 := M.size
 have hts : w.heap.size ≤ t := by omega
 have hto : ob (.slice p' sc.length c') ≠ some t := fun e => by have := hRw.lt e; omega
 replace hRw := hRw.mo hq
 replace hM := hM.mo hq
 replace M := M.trans hq
 refine wl_m (.tmp 11) (pt t 0) ?_
 refine wl_m (.const (.int .i64 (0))) (.int .i64 (0)) ?_
 refine w_nil (xn_then (w_ret ?_))
 exact w_ret2 _ _ (pt t 0) (.int .i64 (0)) rfl rfl rfl ⟨t, ⟨m, .slice p' sc.length c', sc⟩, fun j => j = t, rfl, ⟨⟨fun _ => none, none, ⟨⟨hA, hRw, fun b hb q => hto (q ▸ hb), fun _ _ h => (by cases h), fun _ _ h => (by cases h), fun _ _ h => (by cases h), fun _ _ h => (by cases h), rfl, rfl, fun h => (by cases h), fun h => (by cases h), fun {j} q => (by rw [q]; exact hA.lt), fun (q : m = t) => (by omega), (by show sc.length ≤ 4096; omega)⟩, ⟨fun h => (by cases h), fun h => (by cases h), fun h => (by cases h)⟩, rfl, trivial, List.nodup_nil⟩⟩, hM, trivial, List.nodup_nil, fun _ h => (by cases h), by simp [T.sz], Int.le_refl _, hmo⟩, rfl, fun j q => (by omega), hmb, hob, M⟩
end
end G
end Go.Proofs.Ythfemlhmnjfjiaa
