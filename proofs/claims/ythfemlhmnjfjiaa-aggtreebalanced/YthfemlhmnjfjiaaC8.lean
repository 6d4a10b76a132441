/-
  A part of the proof.
-/
import Derived.Test.YthfemlhmnjfjiaaC7
/-
  The tree's put.
-/
namespace Go.Proofs.Ythfemlhmnjfjiaa
open Go.RowKit
namespace G
section
variable {o : Oper} {n : Nat} {l : List (Nat × Value)} {w : World} {ops : Array Oper} {rest : List Oper} {Q : Exit → Act → World → Prop} {K : Act → World → Prop}
theorem wo_boxc (ty : TypeId) (x : Operand) (v : Value) (cs : Array Value) (ho : o.op = .box ty x) (hx : evl n l x = v) (h : ∀ w, (Instr.box ty v).run Try.prog w = .ok (pt w.heap.size 0) (w.alloc (.cells cs ty)))
    (hk : ∀ k w', w.heap.size = k → Mo w w' → At w' k cs.toList → Cb w' k → K (fr n (ext l o.dst (pt k 0))) w') : WO Try.prog o n l w K Q :=
  ⟨o_val (pt w.heap.size 0) (w' := w.alloc (.cells cs ty)) (by subst hx; simp [execOp, ho, h]) (hk _ _ rfl ((Mo.refl _).alloc _ _) (At.new w cs ty) (Cb.new w cs ty))⟩
theorem wo_mk47 (x y : Operand) (c : Nat) (ho : o.op = .makeSlice 47 x y) (hx : evl n l x = .int .i64 (c : Int)) (hy : evl n l y = .int .i64 (c : Int)) (hc : c ≤ 4096)
    (hk : ∀ k w', w.heap.size = k → w'.heap.size = k + 1 → Mo w w' → Rw w' 23 (.slice (some ⟨k, 0, none⟩) c c) ((List.replicate c sm0).map sml) → K (fr n (ext l o.dst (.slice (some ⟨k, 0, none⟩) c c))) w') : WO Try.prog o n l w K Q :=
  ⟨o_val (.slice (some ⟨w.heap.size, 0, none⟩) c c) (w' := w.alloc (.cells (madeCells (smv sm0).cells (c * 23)) 42)) (by simp only [execOp, ho, hx, hy]; simp [(make47 c hc w).1]) (hk _ _ rfl (by simp) ((Mo.refl _).alloc _ _) (make47 c hc w).2)⟩
end
section
variable {D : Nat → Prop} {w : World} {t : Nat} {mb : Hd} {R : Mp} {root : Option Nat} {lk : Int}
/-- A new node is hung to a place; nothing of it is reckoned yet. -/
theorem hangF {C : Cx} {p : Option Nat} (hS : HS D w t mb R root lk) (hAp : Ap R) (hC : RepC mb.sc R root C p) {kn : Nat} {y : Py} {h : Value} {c : List Sm} (hk : R kn = some ⟨none, none, none, 0, y, h, c⟩) (n1 : (adC C).Nodup) (n2 : kn ∉ adC C) :
    Calls Try.prog 47 #[pt t 0, pp (top C), .int .i64 (if sideC C then 1 else 0), pt kn 0] w fun e w' => e = .returned (.tuple #[]) ∧ TS D w' t mb (⟨kn, y, 0, false, .e⟩ :: C) .e lk ∧ Mk D w w' := by
  have hx : top C ≠ some kn := fun q => n2 (top_mem q)
  refine (hang_n hS (top C) (some kn) (sideC C) (fun k e => by cases e; exact ⟨_, hk⟩) (fun p e => by
      cases C with
      | nil => cases e
      | cons f C => cases e; obtain ⟨h9, c9, e9⟩ := hC.1; exact ⟨_, e9⟩) (fun k e => by cases e; exact hx)).mono fun e w' hq => ?_
  obtain ⟨he, hS', hM⟩ := hq
  refine ⟨he, ⟨_, _, hS', hAp.hk _ _ _, ⟨⟨h, c, hkR_self hk hx⟩, trivial, hC.hang n1 (fun j m q => hkR_ne (fun e => n2 (by cases e; exact m)) q) (fun a q e hq => ?_)⟩, trivial, ?_⟩, hM⟩
  · rw [e]; exact hkR_par hq (fun q => hx (by rw [e, q]))
  · show ((kn :: ([] ++ adC C)) ++ []).Nodup
    simp only [List.nil_append, List.append_nil]
    exact List.nodup_cons.2 ⟨n2, n1⟩
theorem bal_new (kn : Nat) (y : Py) (C : Cx) : rebuild (⟨kn, y, 0, false, .e⟩ :: C) .e = rebuild C (.n kn y 1 .e .e) := by
  show rebuild C (bal kn y .e .e) = _
  rfl
theorem put_n {tr : T} {at0 yi : Int} {yp : Option Addr} {yn yc : Nat} {yvs : List V10} {f : Int → Option Nat} {n : Nat} (hT : RS D w t mb [] tr lk R root) (hM : OM w mb.m f n) (hfi : (if (f yi).isSome then n else n + 1) = n + 1) (hn1 : n ≤ 2000) (hw : (Lit.int .i64 yi).wf = true) (ot : tr.ok) (h0 : 0 ≤ at0) (h1 : at0 ≤ tr.sz) (hb : tr.sz ≤ 8000) (hlk : 0 ≤ lk ∧ lk + 11 * tr.ht + 20 ≤ 4000000000000000000) (hbt : tr.ht ≤ 8000)
    (hyw : Rw w 10 (.slice yp yn yc) (yvs.map V10.cells) ∧ yvs.length = mb.sc.length ∧ ∀ x ∈ yvs, x.n.ok) (hf : Fre R t mb (.slice yp yn yc)) (hyD : ∀ b, ob (.slice yp yn yc) = some b → ¬ D b) (hmh : ob mb.h ≠ some mb.m) :
    Calls Try.prog 31 #[pt t 0, .int .i64 at0, .agg #[.int .i64 yi, .slice yp yn yc]] w fun e w' => e = .returned (.tuple #[]) ∧ ∃ C kn lk' D', plug C .e = tr ∧ ix C = at0 ∧ okC C ∧ w.heap.size ≤ kn ∧ lk < lk' ∧ lk' ≤ lk + 10 * C.length + 8 ∧ C.length ≤ tr.ht ∧
      TS D' w' t mb [] (rebuild C (.n kn ⟨yi, .slice yp yn yc, yvs⟩ 1 .e .e)) lk' ∧ OM w' mb.m (fu f yi (some kn)) (n + 1) ∧ Mk (fun j => D j ∨ j = mb.m ∨ ob (.slice yp yn yc) = some j) w w' ∧ ∀ j, D' j → D j ∨ w.heap.size ≤ j ∨ ob (.slice yp yn yc) = some j := by
  obtain ⟨hS, hAp, hC0, hR0, hn0⟩ := hT
  replace hC0 : root = tr.p := hC0
  subst hC0
  have hDlt : ∀ j, D j → j < w.heap.size := fun j e => hS.lt e
  have hnc := hS.nc
  obtain ⟨p9, cap9, hsl, _⟩ := hS.sc
  rw [List.length_map] at hsl
  refine w_enter 70 Try.func31 Try.ntmps31 rfl rfl ?_
  have M : Mk (fun j => D j ∨ j = mb.m) w w := Mk.refl _ _
  refine w_seq ?_
  refine w_reg ?_
  refine wl_box 83 (.tmp 2) (.agg #[.int .i64 yi, .slice yp yn yc]) (#[.int .i64 yi, .slice yp yn yc]) rfl rfl (fun _ => by kernel_rfl) rfl ?_
  intro k5 w1 hk hz hq Q5
  have hk5 : w.heap.size ≤ k5 := by omega
  have nd5 : ¬ D k5 := fun e => by have := hDlt _ e; omega
  replace hS := hS.mo hq
  replace hM := hM.mo hq
  replace M := M.trans hq
  clear hk hz hq
  refine w_nil ?_
  refine xn_then ?_
  refine w_seq ?_
  refine w_reg ?_
  refine wl_mv (.const (.pointer none)) (pp none) (fun _ => rfl) rfl rfl ?_
  refine w_nil ?_
  refine xn_then ?_
  refine w_seq ?_
  refine w_reg ?_
  refine wl_mv (.const (.int .i64 (0))) (.int .i64 (0)) (fun _ => rfl) rfl rfl ?_
  refine w_nil ?_
  refine xn_then ?_
  refine w_seq ?_
  refine w_seq ?_
  refine w_reg ?_
  refine wl_mv (.tmp 0) (pt t 0) (fun _ => rfl) rfl rfl ?_
  refine wl_nc (.tmp 11) t 0 rfl rfl rfl ?_
  refine wl_un (fun v => Instr.fieldAt 68 v 1) (.tmp 12) (pt t 0) (pt t 1) (fun _ => rfl) rfl (by kernel_rfl) rfl ?_
  refine wl_load 65 (.tmp 13) (pt t 1) (pp tr.p) rfl rfl (run_one hS.tr 65 1 rfl Try.underlying65 rfl) rfl ?_
  refine wl_mv (.tmp 14) (pp tr.p) (fun _ => rfl) rfl rfl ?_
  refine w_nil ?_
  refine xn_then ?_
  refine w_block ?_
  refine w_loop (fun m l w1 => ∃ (C1 : Cx) (tr1 : T) (lk1 at1 : Int), m = tr1.ht ∧ look l 0 = pt t 0 ∧ look l 1 = .int .i64 at1 ∧ look l 5 = pt k5 0 ∧ look l 6 = pp (top C1) ∧ look l 7 = .int .i64 (if sideC C1 then 1 else 0) ∧ look l 8 = pp tr1.p ∧ HS D w1 t mb R tr.p lk1 ∧ OM w1 mb.m f n ∧ At w1 k5 [.int .i64 yi, .slice yp yn yc] ∧ tr1.ok ∧ okC C1 ∧ plug C1 tr1 = tr ∧ csz C1 + tr1.sz = tr.sz ∧ 0 ≤ at1 ∧ at1 ≤ tr1.sz ∧ at1 + ix C1 = at0 ∧ lk ≤ lk1 ∧ lk1 ≤ lk + 2 * C1.length ∧ C1.length + tr1.ht ≤ tr.ht ∧ Mk (fun j => D j ∨ j = mb.m) w w1) _ ⟨[], tr, lk, at0, rfl, rfl, rfl, rfl, rfl, rfl, rfl, hS, hM, Q5, ot, fun _ h => (by cases h), rfl, by simp only [csz]; omega, h0, h1, by simp only [ix]; omega, Int.le_refl _, by simp, by simp, M⟩ ?_
  clear M hS hM ot h0 h1 Q5
  rintro m l0 wl ⟨C1, tr1, lk1, at1, rfl, e0, e1, e5, e6, e7, e8, hS, hM, Q5, ot, oc, hp, hcs, h0, h1, hix, hl1, hl2, hht, M⟩
  obtain ⟨_, _, hC, hR, hn⟩ := RS.at C1 (tr1 := tr1) (R := R) (root := tr.p) (by rw [hp]; exact ⟨hS, hAp, rfl, hR0, hn0⟩)
  have hlk0 : 0 ≤ lk1 := by omega
  have h0c := csz_nn C1
  cases tr1 with
  | n k i s l r =>
    obtain ⟨⟨hd1, hk⟩, hl, hr⟩ := hR
    have h0l := T.sz_nn l; have h0r := T.sz_nn r
    simp only [T.sz] at h1 hcs
    simp only [T.ht] at hht
    have hml := Nat.le_max_left l.ht r.ht; have hmr := Nat.le_max_right l.ht r.ht
    refine w_seq ?_
    refine w_seq ?_
    refine w_reg ?_
    refine wl_mv (.tmp 8) (pt k 0) (fun _ => rfl) e8 rfl ?_
    refine wl_bin (fun x y => do eqGuard .neq 65 (.tmp 15) (.const (.pointer none)) x y; binOp .neq 65 x y) (.tmp 15) (.const (.pointer none)) (pt k 0) (pp none) (.bool true) (fun _ => rfl) rfl rfl (neP (some k) _ _ _) rfl ?_
    refine w_nil ?_
    refine xn_then ?_
    refine w_condT rfl ?_
    refine w_skip ?_
    refine xn_then ?_
    refine w_seq ?_
    refine w_block ?_
    refine w_seq ?_
    refine w_reg ?_
    refine wl_mv (.tmp 0) (pt t 0) (fun _ => rfl) e0 rfl ?_
    refine wl_mv (.tmp 8) (pt k 0) (fun _ => rfl) e8 rfl ?_
    refine wl_mv (.tmp 8) (pt k 0) (fun _ => rfl) e8 rfl ?_
    refine wl_nc (.tmp 25) k 0 rfl rfl rfl ?_
    refine wl_un (fun v => Instr.fieldAt 93 v 2) (.tmp 26) (pt k 0) (pt k 3) (fun _ => rfl) rfl (by kernel_rfl) rfl ?_
    refine wl_bin (fun x y => Instr.indexAt 91 x y) (.tmp 27) (.const (.int .i64 (0))) (pt k 3) (.int .i64 (0)) (pt k 3) (fun _ => rfl) rfl rfl (by kernel_rfl) rfl ?_
    refine wl_load 65 (.tmp 28) (pt k 3) (pp l.p) rfl rfl (run_one (hS.rc k _ hk) 65 3 rfl Try.underlying65 rfl) rfl ?_
    refine wl_bsl [(0, (.tmp 24)), (1, (.tmp 29))] [pp (some k), pp l.p] 2 rfl rfl (bs2 (some k) l.p) rfl ?_
    intro g11 w11 hk hz hq Q11
    have nd_g11 : ¬ D g11 := fun e => by have := hS.lt e; omega
    replace Q5 := Q5.mo hq
    replace hS := hS.mo hq
    replace hM := hM.mo hq
    replace M := M.trans hq
    clear hk hz hq
    refine wl_callg 34 [(.tmp 23), (.tmp 30)] _ [pt t 0, .slice (some ⟨g11, 0, none⟩) 2 2] (.tuple #[]) rfl rfl (fun _ _ => by kernel_rfl) (look_n [(some k), l.p] g11 hS Q11 nd_g11 (by simp only [List.length_cons, List.length_nil]; omega)) rfl ?_
    intro w12 hF
    replace Q5 := hF.2.at Q5 nd5
    have hc1 := cnt_le [(some k), l.p]
    simp only [List.length_cons, List.length_nil] at hc1
    obtain ⟨hS2, hM2⟩ := hF
    replace hS := hS2
    replace M := M.tr hM2 (fun _ _ e => Or.inl e)
    replace hM := hM.mk hM2 hS.nb
    clear hS2 hM2 Q11 nd_g11
    refine w_nil ?_
    refine xn_then ?_
    refine w_seq ?_
    refine w_reg ?_
    refine wl_mv (.tmp 8) (pt k 0) (fun _ => rfl) e8 rfl ?_
    refine wl_mv (.tmp 32) (pt k 0) (fun _ => rfl) rfl rfl ?_
    refine wl_mv (.const (.int .i64 (0))) (.int .i64 (0)) (fun _ => rfl) rfl rfl ?_
    refine w_nil ?_
    refine xn_then ?_
    refine w_seq ?_
    refine w_reg ?_
    refine wl_mv (.tmp 8) (pt k 0) (fun _ => rfl) e8 rfl ?_
    refine wl_nc (.tmp 33) k 0 rfl rfl rfl ?_
    refine wl_un (fun v => Instr.fieldAt 93 v 2) (.tmp 34) (pt k 0) (pt k 3) (fun _ => rfl) rfl (by kernel_rfl) rfl ?_
    refine wl_bin (fun x y => Instr.indexAt 91 x y) (.tmp 35) (.const (.int .i64 (0))) (pt k 3) (.int .i64 (0)) (pt k 3) (fun _ => rfl) rfl rfl (by kernel_rfl) rfl ?_
    refine wl_load 65 (.tmp 36) (pt k 3) (pp l.p) rfl rfl (run_one (hS.rc k _ hk) 65 3 rfl Try.underlying65 rfl) rfl ?_
    refine wl_call 46 [(.tmp 37)] _ [pp l.p] (.int .i64 (l.sz)) rfl rfl (fun _ _ => by kernel_rfl) (size_o hS (szo_of hl ot.2.1)) rfl ?_
    intro w13 hq
    replace Q5 := Q5.mo hq
    replace hS := hS.mo hq
    replace hM := hM.mo hq
    replace M := M.trans hq
    clear hq
    refine wl_mv (.tmp 38) (.int .i64 (l.sz)) (fun _ => rfl) rfl rfl ?_
    refine w_nil ?_
    refine xn_then ?_
    refine w_seq ?_
    cases hf0 : decide (l.sz < at1) with
    | true =>
      have hf0p := of_decide_eq_true hf0
      refine w_reg ?_
      refine wl_mv (.tmp 1) (.int .i64 (at1)) (fun _ => rfl) e1 rfl ?_
      refine wl_mv (.tmp 9) (.int .i64 (l.sz)) (fun _ => rfl) rfl rfl ?_
      refine wl_bin (fun x y => do eqGuard .gtr 3 (.tmp 39) (.tmp 40) x y; binOp .gtr 3 x y) (.tmp 39) (.tmp 40) (.int .i64 (at1)) (.int .i64 (l.sz)) (.bool true) (fun _ => rfl) rfl rfl (gtI hf0 _ _ _) rfl ?_
      refine w_nil ?_
      refine xn_then ?_
      refine w_condT rfl ?_
      refine w_seq ?_
      refine w_reg ?_
      refine wl_mv (.tmp 1) (.int .i64 (at1)) (fun _ => rfl) e1 rfl ?_
      refine wl_mv (.tmp 9) (.int .i64 (l.sz)) (fun _ => rfl) rfl rfl ?_
      refine wl_bin (fun x y => do eqGuard .add 3 (.tmp 43) (.const (.int .i64 (1))) x y; binOp .add 3 x y) (.tmp 43) (.const (.int .i64 (1))) (.int .i64 (l.sz)) (.int .i64 (1)) (.int .i64 (l.sz + 1)) (fun _ => rfl) rfl rfl (addI (by omega) (by omega) _ _ _) rfl ?_
      refine wl_bin (fun x y => do eqGuard .sub 3 (.tmp 42) (.tmp 44) x y; binOp .sub 3 x y) (.tmp 42) (.tmp 44) (.int .i64 (at1)) (.int .i64 (l.sz + 1)) (.int .i64 (at1 - (l.sz + 1))) (fun _ => rfl) rfl rfl (subI (by omega) (by omega) _ _ _) rfl ?_
      refine wl_mv (.tmp 45) (.int .i64 (at1 - (l.sz + 1))) (fun _ => rfl) rfl rfl ?_
      refine w_nil ?_
      refine xn_then ?_
      refine w_reg ?_
      refine wl_mv (.const (.int .i64 (1))) (.int .i64 (1)) (fun _ => rfl) rfl rfl ?_
      refine w_nil ?_
      refine xn_blk ?_
      refine xn_then ?_
      refine w_reg ?_
      refine wl_mv (.tmp 8) (pt k 0) (fun _ => rfl) e8 rfl ?_
      refine wl_mv (.tmp 7) (.int .i64 (1)) (fun _ => rfl) rfl rfl ?_
      refine wl_nc (.tmp 17) k 0 rfl rfl rfl ?_
      refine wl_un (fun v => Instr.fieldAt 93 v 2) (.tmp 19) (pt k 0) (pt k 3) (fun _ => rfl) rfl (by kernel_rfl) rfl ?_
      refine wl_bin (fun x y => Instr.indexAt 91 x y) (.tmp 20) (.tmp 18) (pt k 3) (.int .i64 (1)) (pt k 4) (fun _ => rfl) rfl rfl (by kernel_rfl) rfl ?_
      refine wl_load 65 (.tmp 21) (pt k 4) (pp r.p) rfl rfl (run_one (hS.rc k _ hk) 65 4 rfl Try.underlying65 rfl) rfl ?_
      refine wl_mv (.tmp 22) (pp r.p) (fun _ => rfl) rfl rfl ?_
      refine w_nil ?_
      exact xn_loop r.ht (by simp only [T.ht]; omega) ⟨(⟨k, i, s, true, l⟩ : Fr) :: C1, r, ((lk1) + cnt [(some k), l.p]), at1 - (l.sz + 1), rfl, e0, rfl, e5, rfl, rfl, rfl, hS, hM, Q5, ot.2.2, fun g hg => by rcases List.mem_cons.1 hg with rfl | hg; exact ot.2.1; exact oc g hg, hp, by simp only [csz]; omega, by omega, by omega, by simp only [ix, if_true]; omega, by omega, by simp only [List.length_cons]; omega, by simp only [List.length_cons]; omega, M⟩
    | false =>
      have hf0p := of_decide_eq_false hf0
      refine w_reg ?_
      refine wl_mv (.tmp 1) (.int .i64 (at1)) (fun _ => rfl) e1 rfl ?_
      refine wl_mv (.tmp 9) (.int .i64 (l.sz)) (fun _ => rfl) rfl rfl ?_
      refine wl_bin (fun x y => do eqGuard .gtr 3 (.tmp 39) (.tmp 40) x y; binOp .gtr 3 x y) (.tmp 39) (.tmp 40) (.int .i64 (at1)) (.int .i64 (l.sz)) (.bool false) (fun _ => rfl) rfl rfl (gtI hf0 _ _ _) rfl ?_
      refine w_nil ?_
      refine xn_then ?_
      refine w_condF rfl ?_
      refine w_skip ?_
      refine xn_blk ?_
      refine xn_then ?_
      refine w_reg ?_
      refine wl_mv (.tmp 8) (pt k 0) (fun _ => rfl) e8 rfl ?_
      refine wl_mv (.tmp 7) (.int .i64 (0)) (fun _ => rfl) rfl rfl ?_
      refine wl_nc (.tmp 17) k 0 rfl rfl rfl ?_
      refine wl_un (fun v => Instr.fieldAt 93 v 2) (.tmp 19) (pt k 0) (pt k 3) (fun _ => rfl) rfl (by kernel_rfl) rfl ?_
      refine wl_bin (fun x y => Instr.indexAt 91 x y) (.tmp 20) (.tmp 18) (pt k 3) (.int .i64 (0)) (pt k 3) (fun _ => rfl) rfl rfl (by kernel_rfl) rfl ?_
      refine wl_load 65 (.tmp 21) (pt k 3) (pp l.p) rfl rfl (run_one (hS.rc k _ hk) 65 3 rfl Try.underlying65 rfl) rfl ?_
      refine wl_mv (.tmp 22) (pp l.p) (fun _ => rfl) rfl rfl ?_
      refine w_nil ?_
      exact xn_loop l.ht (by simp only [T.ht]; omega) ⟨(⟨k, i, s, false, r⟩ : Fr) :: C1, l, ((lk1) + cnt [(some k), l.p]), at1, rfl, e0, e1, e5, rfl, rfl, rfl, hS, hM, Q5, ot.2.1, fun g hg => by rcases List.mem_cons.1 hg with rfl | hg; exact ot.2.2; exact oc g hg, hp, by simp only [csz]; omega, by omega, by omega, by simp only [ix]; simp only [Bool.false_eq_true, if_false]; omega, by omega, by simp only [List.length_cons]; omega, by simp only [List.length_cons]; omega, M⟩
  | e =>
    refine w_seq ?_
    refine w_seq ?_
    refine w_reg ?_
    refine wl_mv (.tmp 8) (pp none) (fun _ => rfl) e8 rfl ?_
    refine wl_bin (fun x y => do eqGuard .neq 65 (.tmp 15) (.const (.pointer none)) x y; binOp .neq 65 x y) (.tmp 15) (.const (.pointer none)) (pp none) (pp none) (.bool false) (fun _ => rfl) rfl rfl (neP none _ _ _) rfl ?_
    refine w_nil ?_
    refine xn_then ?_
    refine w_condF rfl ?_
    refine w_exit ?_
    refine xx_then ?_
    refine xx_then ?_
    refine xx_blk ?_
    refine xn_then ?_
    refine w_seq ?_
    have hsm : Smos [vq (.agg #[.int .i64 yi, .slice yp yn yc]), vq (pt t 0), vq (pt t 0), vq (pt t 0), vq (mb.h), vq (.int .i64 ((mb.sc.length : Nat) : Int)), fun u w9 => ∃ b9, u = .slice (some ⟨b9, 0, none⟩) mb.sc.length mb.sc.length ∧ wl.heap.size ≤ b9 ∧ b9 < w9.heap.size ∧ Rw w9 23 (.slice (some ⟨b9, 0, none⟩) mb.sc.length mb.sc.length) ((List.replicate mb.sc.length sm0).map sml), fun u w9 => ∃ b9, u = .agg #[.int .i64 yi, .slice yp yn yc, .pointer none, .pointer none, .pointer none, .int .i64 0, .slice (some ⟨b9, 0, none⟩) mb.sc.length mb.sc.length] ∧ wl.heap.size ≤ b9 ∧ b9 < w9.heap.size ∧ Rw w9 23 (.slice (some ⟨b9, 0, none⟩) mb.sc.length mb.sc.length) ((List.replicate mb.sc.length sm0).map sml), fun u w9 => ∃ b9 kn, u = pt kn 0 ∧ At w9 kn [.int .i64 yi, .slice yp yn yc, .pointer none, .pointer none, .pointer none, .int .i64 0, .slice (some ⟨b9, 0, none⟩) mb.sc.length mb.sc.length] ∧ Cb w9 kn ∧ wl.heap.size ≤ kn ∧ b9 ≠ kn ∧ wl.heap.size ≤ b9 ∧ Rw w9 23 (.slice (some ⟨b9, 0, none⟩) mb.sc.length mb.sc.length) ((List.replicate mb.sc.length sm0).map sml), fun u w9 => ∃ b9 kn, u = pt kn 0 ∧ At w9 kn [.int .i64 yi, .slice yp yn yc, .pointer none, .pointer none, .pointer none, .int .i64 0, .slice (some ⟨b9, 0, none⟩) mb.sc.length mb.sc.length] ∧ Cb w9 kn ∧ wl.heap.size ≤ kn ∧ b9 ≠ kn ∧ wl.heap.size ≤ b9 ∧ Rw w9 23 (.slice (some ⟨b9, 0, none⟩) mb.sc.length mb.sc.length) ((List.replicate mb.sc.length sm0).map sml)] := smos_cons (smo_vq _) (smos_cons (smo_vq _) (smos_cons (smo_vq _) (smos_cons (smo_vq _) (smos_cons (smo_vq _) (smos_cons (smo_vq _) (smos_cons (fun u a b ⟨b9, h1, h2, h3, h4⟩ m => ⟨b9, h1, h2, Nat.lt_of_lt_of_le h3 m.size, h4.mo m⟩) (smos_cons (fun u a b ⟨b9, h1, h2, h3, h4⟩ m => ⟨b9, h1, h2, Nat.lt_of_lt_of_le h3 m.size, h4.mo m⟩) (smos_cons (fun u a b ⟨b9, kn, h1, h2, h3, h4, h5, h6, h7⟩ m => ⟨b9, kn, h1, h2.mo m, h3.mo m, h4, h5, h6, h7.mo m⟩) (smos_cons (fun u a b ⟨b9, kn, h1, h2, h3, h4, h5, h6, h7⟩ m => ⟨b9, kn, h1, h2.mo m, h3.mo m, h4, h5, h6, h7.mo m⟩) (smos_nil))))))))))
    have hgr : ∀ a b : World, Mo wl a → Mo a b → Mo wl b := fun _ _ h m => h.trans m
    refine w_ogc 10 (fun w9 => Mo wl w9) [vq (.agg #[.int .i64 yi, .slice yp yn yc]), vq (pt t 0), vq (pt t 0), vq (pt t 0), vq (mb.h), vq (.int .i64 ((mb.sc.length : Nat) : Int)), fun u w9 => ∃ b9, u = .slice (some ⟨b9, 0, none⟩) mb.sc.length mb.sc.length ∧ wl.heap.size ≤ b9 ∧ b9 < w9.heap.size ∧ Rw w9 23 (.slice (some ⟨b9, 0, none⟩) mb.sc.length mb.sc.length) ((List.replicate mb.sc.length sm0).map sml), fun u w9 => ∃ b9, u = .agg #[.int .i64 yi, .slice yp yn yc, .pointer none, .pointer none, .pointer none, .int .i64 0, .slice (some ⟨b9, 0, none⟩) mb.sc.length mb.sc.length] ∧ wl.heap.size ≤ b9 ∧ b9 < w9.heap.size ∧ Rw w9 23 (.slice (some ⟨b9, 0, none⟩) mb.sc.length mb.sc.length) ((List.replicate mb.sc.length sm0).map sml), fun u w9 => ∃ b9 kn, u = pt kn 0 ∧ At w9 kn [.int .i64 yi, .slice yp yn yc, .pointer none, .pointer none, .pointer none, .int .i64 0, .slice (some ⟨b9, 0, none⟩) mb.sc.length mb.sc.length] ∧ Cb w9 kn ∧ wl.heap.size ≤ kn ∧ b9 ≠ kn ∧ wl.heap.size ≤ b9 ∧ Rw w9 23 (.slice (some ⟨b9, 0, none⟩) mb.sc.length mb.sc.length) ((List.replicate mb.sc.length sm0).map sml), fun u w9 => ∃ b9 kn, u = pt kn 0 ∧ At w9 kn [.int .i64 yi, .slice yp yn yc, .pointer none, .pointer none, .pointer none, .int .i64 0, .slice (some ⟨b9, 0, none⟩) mb.sc.length mb.sc.length] ∧ Cb w9 kn ∧ wl.heap.size ≤ kn ∧ b9 ≠ kn ∧ wl.heap.size ≤ b9 ∧ Rw w9 23 (.slice (some ⟨b9, 0, none⟩) mb.sc.length mb.sc.length) ((List.replicate mb.sc.length sm0).map sml)] [] (by kernel_rfl) (by kernel_rfl) (by kernel_rfl) (by kernel_rfl) rfl (by kernel_rfl) (by kernel_rfl) latec_nil ((Mo.refl _).drew) ?_ ?_
    · refine ea_cons ?_ (ea_cons ?_ (ea_cons ?_ (ea_cons ?_ (ea_cons ?_ (ea_cons ?_ (ea_cons ?_ (ea_cons ?_ (ea_cons ?_ (ea_cons ?_ (ea_nil))))))))))
      · exact oc_eq (.agg #[.int .i64 yi, .slice yp yn yc]) rfl hgr hsm (fun f wf hG9 hd K hK => have Q5 := Q5.mo hG9; go_run rfl (wo_load 83 (.tmp 5) (pt k5 0) (.agg #[.int .i64 yi, .slice yp yn yc]) rfl e5 (run_row Q5 83 0 2 [.int .i64 yi, .slice yp yn yc] rfl Try.underlying83 rfl zs83) (hK _ (Mo.refl _))))
      · exact oc_eq (pt t 0) rfl hgr hsm (fun f wf hG9 hd K hK => go_run rfl (wo_mv (.tmp 0) (pt t 0) (fun _ => rfl) e0 (hK _ (Mo.refl _))))
      · exact oc_eq (pt t 0) rfl hgr hsm (fun f wf hG9 hd K hK => go_run rfl (wo_nc (.tmp 47) t 0 rfl (hd 1 rfl) (hK _ (Mo.refl _))))
      · exact oc_eq (pt t 0) rfl hgr hsm (fun f wf hG9 hd K hK => go_run rfl (wo_un (fun v => Instr.fieldAt 68 v 0) (.tmp 48) (pt t 0) (pt t 0) (fun _ => rfl) (hd 2 rfl) (by kernel_rfl) (hK _ (Mo.refl _))))
      · exact oc_eq (mb.h) rfl hgr hsm (fun f wf hG9 hd K hK => have hS := hS.mo hG9; go_run rfl (wo_load 22 (.tmp 49) (pt t 0) (mb.h) rfl (hd 3 rfl) (run_one hS.tr 22 0 rfl Try.underlying22 rfl) (hK _ (Mo.refl _))))
      · exact oc_eq (.int .i64 ((mb.sc.length : Nat) : Int)) rfl hgr hsm (fun f wf hG9 hd K hK => go_run rfl (wo_val (.int .i64 ((mb.sc.length : Nat) : Int)) (len22 _ _ _ _ _ (Eq.trans (b := mb.h) (by exact (hd 4 rfl)) hsl) _ _ _ _ _ _) (hK _ (Mo.refl _))))
      · refine ⟨fun f wf hG9 hd K hK => ?_⟩
        exact go_run rfl (wo_mk47 (.tmp 51) (.tmp 51) mb.sc.length rfl (hd 5 rfl) (hd 5 rfl) hnc (fun k9 w9 e9 z9 q1 q2 => hK _ w9 (hG9.trans q1) ⟨k9, rfl, by have := hG9.size; omega, by omega, q2⟩ (fun j u _ hr9 => hsm j u _ _ hr9 q1)))
      · refine ⟨fun f wf hG9 hd K hK => ?_⟩
        obtain ⟨b9, e9, g1, g2, g3⟩ := hd 6 rfl
        exact go_run rfl (wo_build 93 [(0, (.tmp 46)), (4, (.tmp 52))] [(0, .agg #[.int .i64 yi, .slice yp yn yc]), (4, .slice (some ⟨b9, 0, none⟩) mb.sc.length mb.sc.length)] (.agg #[.int .i64 yi, .slice yp yn yc, .pointer none, .pointer none, .pointer none, .int .i64 0, .slice (some ⟨b9, 0, none⟩) mb.sc.length mb.sc.length]) rfl (lp2 (hd 0 rfl) e9) (by kernel_rfl) (hK _ _ hG9 ⟨b9, rfl, g1, g2, g3⟩ (fun j u _ hr9 => hr9)))
      · refine ⟨fun f wf hG9 hd K hK => ?_⟩
        obtain ⟨b9, e9, g1, g2, g3⟩ := hd 7 rfl
        exact go_run rfl (wo_boxc 93 (.tmp 53) (.agg #[.int .i64 yi, .slice yp yn yc, .pointer none, .pointer none, .pointer none, .int .i64 0, .slice (some ⟨b9, 0, none⟩) mb.sc.length mb.sc.length]) #[.int .i64 yi, .slice yp yn yc, .pointer none, .pointer none, .pointer none, .int .i64 0, .slice (some ⟨b9, 0, none⟩) mb.sc.length mb.sc.length] rfl e9 (fun _ => by kernel_rfl) (fun k9 w9 q0 q1 q2 q3 => hK _ w9 (hG9.trans q1) ⟨b9, k9, rfl, q2, q3, by have := hG9.size; omega, by omega, g1, g3.mo q1⟩ (fun j u _ hr9 => hsm j u _ _ hr9 q1)))
      · refine ⟨fun f wf hG9 hd K hK => ?_⟩
        obtain ⟨b9, k9, e9, g⟩ := hd 8 rfl
        exact go_run rfl (wo_mv (.tmp 54) (pt k9 0) (fun _ => rfl) e9 (hK _ _ hG9 ⟨b9, k9, rfl, g⟩ (fun j u _ hr9 => hr9)))
    intro f9 w11 hq hR9
    obtain ⟨b9, kn, e9, hA9, hcb, hkn0, hbk, hb0, hRw⟩ := hR9 9 rfl
    have hMs := M.size
    have hkn : w.heap.size ≤ kn := by omega
    have hlt : ∀ j, j ∈ adC C1 → j ≠ kn := fun j m e => by obtain ⟨r, hr⟩ := hC.mem j m; have := (hS.rc j r hr).lt; omega
    obtain ⟨r0, er0⟩ : ∃ r0 : Rc, r0 = ⟨none, none, none, 0, ⟨yi, .slice yp yn yc, yvs⟩, .slice (some ⟨b9, 0, none⟩) mb.sc.length mb.sc.length, List.replicate mb.sc.length sm0⟩ := ⟨_, rfl⟩
    have hob9 : ∀ b, ob (.slice (some ⟨b9, 0, none⟩) mb.sc.length mb.sc.length) = some b → b = b9 := fun b hb => by obtain ⟨a, q, c, e1, e2⟩ := ob_some hb; rw [Value.slice.injEq] at e1; have := e1.1; cases this; exact e2.symm
    have hyl : ∀ b, ob (.slice yp yn yc) = some b → b < w.heap.size := fun b hb => hyw.1.lt hb
    have hyw2 := hyw.1.kept M (fun b hb e => by rcases e with e | e; exact hyD b hb e; exact (hf b hb).2.2.1 e)
    have hAp1 : Ap (ud R kn r0) := by subst er0; exact Ap.add hS hAp (by omega) _ hf (fun b hb => by have := hob9 b hb; subst this; exact ⟨by omega, fun e => by have := hyl _ e; omega⟩)
    replace hS := hS.add (by omega) hq r0 (by rw [er0]; exact hA9) hcb hM.lt (by rw [er0]; exact ⟨hyw2.mo hq, hyw.2⟩) (by rw [er0]; exact hf) (by rw [er0]; exact fun e => by have := hyl _ e; omega) (by rw [er0]; exact ⟨hRw, by simp, fun S hS => by rw [List.eq_of_mem_replicate hS]; exact sm0_ok⟩) (by rw [er0]; exact fun b hb => by have := hob9 b hb; subst this; exact ⟨by omega, hbk⟩)
    obtain ⟨D1, eD1⟩ : ∃ X : Nat → Prop, X = Dn D kn r0 := ⟨_, rfl⟩
    rw [← eD1] at hS
    obtain ⟨R1, eR1⟩ : ∃ X, X = ud R kn r0 := ⟨_, rfl⟩
    rw [← eR1] at hS hAp1
    have hDb : ∀ j, ob r0.h = some j → j = b9 := by rw [er0]; exact hob9
    have hDv : ∀ j, ob r0.i.v = some j → ob (.slice yp yn yc) = some j := by rw [er0]; exact fun _ h => h
    have hD9 : ∀ j, D1 j → D j ∨ w.heap.size ≤ j ∨ ob (.slice yp yn yc) = some j := fun j e => by rw [eD1] at e; rcases e with e | e | e | e; exact Or.inl e; exact Or.inr (Or.inl (by omega)); exact Or.inr (Or.inr (hDv j e)); exact Or.inr (Or.inl (by have := hDb j e; omega))
    have hDD : ∀ j, j < w.heap.size → D1 j → D j ∨ j = mb.m ∨ ob (.slice yp yn yc) = some j := fun j hj e => by rcases hD9 j e with e | e | e; exact Or.inl e; omega; exact Or.inr (Or.inr e)
    have hnw : R1 kn = some ⟨none, none, none, 0, ⟨yi, .slice yp yn yc, yvs⟩, .slice (some ⟨b9, 0, none⟩) mb.sc.length mb.sc.length, List.replicate mb.sc.length sm0⟩ := by rw [eR1, ← er0]; exact ud_same _ _ _
    replace hC : RepC mb.sc R1 tr.p C1 none := by rw [eR1]; exact hC.ud (fun m => hlt kn m rfl)
    replace M : Mk (fun j => D j ∨ j = mb.m ∨ ob (.slice yp yn yc) = some j) w _ := (Mk.refl _ w).tr (M.trans hq) (fun j _ e => e.imp_right Or.inl)
    replace hM := hM.mo hq
    replace Q5 := Q5.mo hq
    have e10 := e9
    clear hq hR9 hsm hgr
    refine w_nil ?_
    refine xn_then ?_
    refine w_seq ?_
    have hsm : Smos [vq (pt t 0), vq (pt t 0), vq (pt t 2), vq (.map (some mb.m)), vq (pt k5 0), vq (.int .i64 yi), vq (pt kn 0)] := smos_cons (smo_vq _) (smos_cons (smo_vq _) (smos_cons (smo_vq _) (smos_cons (smo_vq _) (smos_cons (smo_vq _) (smos_cons (smo_vq _) (smos_cons (smo_vq _) (smos_nil)))))))
    have hgr : ∀ a b : World, Mo w11 a → Mo a b → Mo w11 b := fun _ _ h m => h.trans m
    refine w_ogc 7 (fun w9 => Mo w11 w9) [vq (pt t 0), vq (pt t 0), vq (pt t 2), vq (.map (some mb.m)), vq (pt k5 0), vq (.int .i64 yi), vq (pt kn 0)] [] (by kernel_rfl) (by kernel_rfl) (by kernel_rfl) (by kernel_rfl) rfl (by kernel_rfl) (by kernel_rfl) latec_nil ((Mo.refl _).drew) ?_ ?_
    · refine ea_cons ?_ (ea_cons ?_ (ea_cons ?_ (ea_cons ?_ (ea_cons ?_ (ea_cons ?_ (ea_cons ?_ (ea_nil)))))))
      · exact oc_eq (pt t 0) rfl hgr hsm (fun f wf hG9 hd K hK => go_run rfl (wo_mv (.tmp 0) (pt t 0) (fun _ => rfl) e0 (hK _ (Mo.refl _))))
      · exact oc_eq (pt t 0) rfl hgr hsm (fun f wf hG9 hd K hK => go_run rfl (wo_nc (.tmp 55) t 0 rfl (hd 0 rfl) (hK _ (Mo.refl _))))
      · exact oc_eq (pt t 2) rfl hgr hsm (fun f wf hG9 hd K hK => go_run rfl (wo_un (fun v => Instr.fieldAt 68 v 2) (.tmp 56) (pt t 0) (pt t 2) (fun _ => rfl) (hd 1 rfl) (by kernel_rfl) (hK _ (Mo.refl _))))
      · exact oc_eq (.map (some mb.m)) rfl hgr hsm (fun f wf hG9 hd K hK => have hS := hS.mo hG9; go_run rfl (wo_load 66 (.tmp 57) (pt t 2) (.map (some mb.m)) rfl (hd 2 rfl) (run_one hS.tr 66 2 rfl Try.underlying66 rfl) (hK _ (Mo.refl _))))
      · exact oc_eq (pt k5 0) rfl hgr hsm (fun f wf hG9 hd K hK => go_run rfl (wo_un (fun v => Instr.fieldAt 83 v 0) (.tmp 5) (pt k5 0) (pt k5 0) (fun _ => rfl) e5 (by kernel_rfl) (hK _ (Mo.refl _))))
      · exact oc_eq (.int .i64 yi) rfl hgr hsm (fun f wf hG9 hd K hK => have Q5 := Q5.mo hG9; go_run rfl (wo_load 2 (.tmp 59) (pt k5 0) (.int .i64 yi) rfl (hd 4 rfl) (run_one Q5 2 0 rfl Try.underlying2 rfl) (hK _ (Mo.refl _))))
      · exact oc_eq (pt kn 0) rfl hgr hsm (fun f wf hG9 hd K hK => go_run rfl (wo_mv (.tmp 10) (pt kn 0) (fun _ => rfl) e10 (hK _ (Mo.refl _))))
    intro f9 w12 hq hR9
    have em3 := hR9 3 rfl
    have em5 := hR9 5 rfl
    have em6 := hR9 6 rfl
    replace Q5 := Q5.mo hq
    replace hS := hS.mo hq
    replace hM := hM.mo hq
    replace M := M.trans hq
    clear hq hR9 hsm hgr
    refine wl_mup (.tmp 58) (.tmp 60) (.tmp 61) mb.m yi kn hM (by omega) hw rfl rfl em3 em5 em6 rfl ?_
    intro w13 hM9 hK
    replace hM := hM9
    rw [hfi] at hM
    replace hS := hS.kept hK (fun j e q => hS.nb (by rw [← q]; exact e)) (fun b hb q => hmh (by rw [← q]; exact hb))
    replace M := M.tr hK (fun _ _ e => Or.inr (Or.inl e))
    have hnb := hS.nb
    clear hM9 hK
    refine w_nil ?_
    refine xn_then ?_
    refine w_seq ?_
    refine w_reg ?_
    refine wl_mv (.tmp 0) (pt t 0) (fun _ => rfl) e0 rfl ?_
    refine wl_mv (.tmp 6) (pp ((top C1))) (fun _ => rfl) e6 rfl ?_
    refine wl_mv (.tmp 7) (.int .i64 (if sideC C1 then 1 else 0)) (fun _ => rfl) e7 rfl ?_
    refine wl_mv (.tmp 10) (pt kn 0) (fun _ => rfl) e10 rfl ?_
    refine wl_callg 47 [(.tmp 62), (.tmp 63), (.tmp 64), (.tmp 65)] _ [pt t 0, pp ((top C1)), .int .i64 (if sideC C1 then 1 else 0), pt kn 0] (.tuple #[]) rfl rfl (fun _ _ => by kernel_rfl) (hangF hS hAp1 hC hnw (nd_pos hn).1 (fun m => hlt kn m rfl)) rfl ?_
    intro w14 hF
    obtain ⟨hT, hM2⟩ := hF
    replace M := M.tr hM2 hDD
    replace hM := hM.mk hM2 hS.nb
    clear hM2
    refine w_nil ?_
    refine xn_then ?_
    refine w_reg ?_
    refine wl_mv (.tmp 0) (pt t 0) (fun _ => rfl) e0 rfl ?_
    refine wl_mv (.tmp 10) (pt kn 0) (fun _ => rfl) e10 rfl ?_
    refine wl_callg 48 [(.tmp 67), (.tmp 68)] _ [pt t 0, pt kn 0] (.tuple #[]) rfl rfl (fun _ _ => by kernel_rfl) (settle_n (C := ⟨kn, ⟨yi, .slice yp yn yc, yvs⟩, 0, false, .e⟩ :: C1) (tr := .e) hT trivial (fun g hg => by rcases List.mem_cons.1 hg with rfl | hg; exact trivial; exact oc g hg) (by simp only [T.sz, csz] at hcs ⊢; omega) (by simp only [List.length_cons]; omega)) rfl ?_
    intro w15 hF
    obtain ⟨lk2, hk1, hk2, hT2, hM2⟩ := hF
    simp only [List.length_cons] at hk1 hk2
    rw [bal_new] at hT2
    replace hM := hM.mk hM2 hnb
    replace M := M.tr hM2 hDD
    clear hM2
    refine w_nil ?_
    exact w_end0 rfl ⟨rfl, C1, kn, lk2, D1, hp, by simp only [T.sz] at h1; omega, oc, hkn, by omega, by omega, by simp only [T.ht] at hht; omega, hT2, hM, M, hD9⟩
end
end G
end Go.Proofs.Ythfemlhmnjfjiaa
/-
  A record less; a row given to another record.
-/
namespace Go.Proofs.Ythfemlhmnjfjiaa
open Go.RowKit
namespace G
/-- A record less. -/
def rm (M : Mp) (k : Nat) : Mp := fun j => if j = k then none else M j
theorem rm_or {M : Mp} {k j : Nat} {q : Rc} (h : rm M k j = some q) : j ≠ k ∧ M j = some q := by
  unfold rm at h
  split at h
  · cases h
  · rename_i e; exact ⟨e, h⟩
theorem rm_ne {M : Mp} {k j : Nat} (h : j ≠ k) : rm M k j = M j := if_neg h
theorem rm_none {M : Mp} {k j : Nat} (h : M j = none) : rm M k j = none := by unfold rm; split; rfl; exact h
section
variable {D : Nat → Prop} {w w' : World} {t : Nat} {mb : Hd} {M : Mp} {root : Option Nat} {lk : Int}
/-- The tree's blocks may be fewer. -/
theorem HS.less (h : HS D w t mb M root lk) (k : Nat) {E : Nat → Prop} (hE : ∀ j, E j → D j) (ht : E t) (hk : ∀ {j q}, M j = some q → j ≠ k → E j) (hs : ∀ {j q b}, M j = some q → j ≠ k → ob q.i.v = some b ∨ ob q.h = some b → E b) : HS E w t mb (rm M k) root lk :=
  ⟨h.tr, h.sc, fun b hb e => h.sd b hb (hE b e), fun j q hj => h.rc j q (rm_or hj).2, fun j q hj => h.cb j q (rm_or hj).2, fun j q hj => h.sv j q (rm_or hj).2, fun j q hj => h.ss j q (rm_or hj).2, rm_none h.mt, ht, fun hj => hk (rm_or hj).2 (rm_or hj).1,
    fun hj hb => ⟨hs (rm_or hj).2 (rm_or hj).1 hb, (h.ds (rm_or hj).2 hb).2.1, rm_none (h.ds (rm_or hj).2 hb).2.2⟩, fun e => h.lt (hE _ e), fun e => h.nb (hE _ e), h.nc⟩
/-- What is owned is what was owned, values and summaries each by others. -/
theorem Ap.perm2 {M' : Mp} (h : Ap M) (τ σ : Nat → Nat) (hτ : ∀ {a b x y}, M' a = some x → M' b = some y → τ a = τ b → a = b) (hσ : ∀ {a b x y}, M' a = some x → M' b = some y → σ a = σ b → a = b)
    (key : ∀ {j q'}, M' j = some q' → ∃ a b, M (τ j) = some a ∧ M (σ j) = some b ∧ q'.i.v = a.i.v ∧ q'.h = b.h) : Ap M' := by
  refine ⟨fun a b c => ?_, fun a b n c => ?_, fun a b n c => ?_⟩
  · obtain ⟨_, x, _, hx, _, x2⟩ := key a; obtain ⟨y, _, hy, _, y1, _⟩ := key b
    rw [y1]; rw [x2] at c; exact h.hv hx hy c
  · obtain ⟨_, x, _, hx, _, x2⟩ := key a; obtain ⟨_, y, _, hy, _, y2⟩ := key b
    rw [y2]; rw [x2] at c; exact h.hh hx hy (fun e => n (hσ a b e)) c
  · obtain ⟨x, _, hx, _, x1, _⟩ := key a; obtain ⟨y, _, hy, _, y1, _⟩ := key b
    rw [y1]; rw [x1] at c; exact h.vv hx hy (fun e => n (hτ a b e)) c
theorem Ap.rm (h : Ap M) (k : Nat) : Ap (rm M k) := ⟨fun a b => h.hv (rm_or a).2 (rm_or b).2, fun a b => h.hh (rm_or a).2 (rm_or b).2, fun a b => h.vv (rm_or a).2 (rm_or b).2⟩
/-- A record's row becomes that of another record. -/
theorem HS.row (h : HS D w t mb M root lk) {k kn : Nat} {r q : Rc} (e : M k = some r) (e2 : M kn = some q) (s : St2 k w w') (hA : At w' k (⟨r.u, r.l, r.r, r.s, q.i, r.h, r.c⟩ : Rc).cells) : HS D w' t mb (ud M k ⟨r.u, r.l, r.r, r.s, q.i, r.h, r.c⟩) root lk := by
  have hK := Mk.st1 s
  have hno : ∀ {j q b}, M j = some q → ob q.i.v = some b ∨ ob q.h = some b → ¬ (b = k) := fun hj hb e2 => by
    have := (h.ds hj hb).2.2
    rw [e2, e] at this; cases this
  have hMb : ∀ {b}, M b = none → ud M k ⟨r.u, r.l, r.r, r.s, q.i, r.h, r.c⟩ b = none := fun {b} hb => by
    rw [ud_ne _ _ (fun q => by rw [q, e] at hb; cases hb)]; exact hb
  refine ⟨s.other t _ (Ne.symm (h.ne e)) h.tr, h.sc.kept hK (fun b hb q => h.sd b hb (by rw [q]; exact h.dk e)), h.sd, fun j x hj => ?_, fun j x hj => ?_, fun j x hj => ?_, fun j x hj => ?_, hMb h.mt, h.dt, fun {j x} hj => ?_, fun {j x b} hj hb => ?_, fun e => by rw [s.size]; exact h.lt e, h.nb, h.nc⟩
  · rcases ud_or hj with ⟨rfl, rfl⟩ | ⟨hne, hj⟩
    · exact hA
    · exact s.other j _ hne (h.rc j x hj)
  · rcases ud_or hj with ⟨rfl, rfl⟩ | ⟨hne, hj⟩
    · exact s.cb _ (h.cb _ r e)
    · exact s.cb _ (h.cb j x hj)
  · rcases ud_or hj with ⟨rfl, rfl⟩ | ⟨hne, hj⟩
    · exact ⟨(h.sv _ q e2).1.kept hK (fun b hb => hno e2 (Or.inl hb)), (h.sv _ q e2).2⟩
    · exact ⟨(h.sv j x hj).1.kept hK (fun b hb => hno hj (Or.inl hb)), (h.sv j x hj).2⟩
  · rcases ud_or hj with ⟨rfl, rfl⟩ | ⟨hne, hj⟩
    · exact ⟨(h.ss _ r e).1.kept hK (fun b hb => hno e (Or.inr hb)), (h.ss _ r e).2⟩
    · exact ⟨(h.ss j x hj).1.kept hK (fun b hb => hno hj (Or.inr hb)), (h.ss j x hj).2⟩
  · rcases ud_or hj with ⟨rfl, rfl⟩ | ⟨hne, hj⟩
    · exact h.dk e
    · exact h.dk hj
  · rcases ud_or hj with ⟨rfl, rfl⟩ | ⟨hne, hj⟩
    · rcases hb with hb | hb
      · obtain ⟨a1, a2, a3⟩ := h.ds e2 (Or.inl hb); exact ⟨a1, a2, hMb a3⟩
      · obtain ⟨a1, a2, a3⟩ := h.ds e (Or.inr hb); exact ⟨a1, a2, hMb a3⟩
    · obtain ⟨a1, a2, a3⟩ := h.ds hj hb; exact ⟨a1, a2, hMb a3⟩
/-- Without a record and what it owns. -/
def Dm (D : Nat → Prop) (k : Nat) (r : Rc) (j : Nat) : Prop := D j ∧ j ≠ k ∧ ob r.i.v ≠ some j ∧ ob r.h ≠ some j
theorem HS.drop (h : HS D w t mb M root lk) (A : Ap M) {k : Nat} {r : Rc} (e : M k = some r) : HS (Dm D k r) w t mb (rm M k) root lk :=
  h.less k (fun j hj => hj.1) ⟨h.dt, Ne.symm (h.ne e), fun q => (h.ds e (Or.inl q)).2.1 rfl, fun q => (h.ds e (Or.inr q)).2.1 rfl⟩
    (fun {j q} hj hn => ⟨h.dk hj, hn, fun x => (by rw [(h.ds e (Or.inl x)).2.2] at hj; cases hj), fun x => (by rw [(h.ds e (Or.inr x)).2.2] at hj; cases hj)⟩)
    (fun {j q b} hj hn hb => ⟨(h.ds hj hb).1, fun x => (by have := (h.ds hj hb).2.2; rw [x, e] at this; cases this),
      fun x => (by rcases hb with hb | hb; exact A.vv e hj (Ne.symm hn) x hb; exact A.hv hj e hb x),
      fun x => (by rcases hb with hb | hb; exact A.hv e hj x hb; exact A.hh e hj (Ne.symm hn) x hb)⟩)
/-- A record that is not in the tree goes. -/
theorem RS.drop {C : Cx} {tr : T} (h : RS D w t mb C tr lk M root) {k : Nat} {r : Rc} (e : M k = some r) (hC : k ∉ adC C) (hT : k ∉ tr.ad) : RS (Dm D k r) w t mb C tr lk (rm M k) root :=
  ⟨h.hs.drop h.ap e, h.ap.rm k, RepC.same (fun _ m => rm_ne (fun q => hC (q ▸ m))) h.rc, Rep.same (fun _ m => rm_ne (fun q => hT (q ▸ m))) h.rp, h.nd⟩
end
end G
end Go.Proofs.Ythfemlhmnjfjiaa
/-
  The tree's take, where one side at most is there.
-/
namespace Go.Proofs.Ythfemlhmnjfjiaa
open Go.RowKit
namespace G
section
variable {D : Nat → Prop} {w : World} {t : Nat} {mb : Hd} {R : Mp} {root : Option Nat} {lk : Int}
theorem hangT2 {C : Cx} {tr : T} {p u : Option Nat} (hS : HS D w t mb R root lk) (hAp : Ap R) (hC : RepC mb.sc R root C p) (hR : Rep mb.sc R u tr) (hn : (adC C ++ tr.ad).Nodup) :
    Calls Try.prog 47 #[pt t 0, pp (top C), .int .i64 (if sideC C then 1 else 0), pp tr.p] w fun e w' => e = .returned (.tuple #[]) ∧ RS D w' t mb C tr lk (hkR R (top C) (sideC C) tr.p) (hkO root (top C) tr.p) ∧ Mk D w w' := by
  obtain ⟨n1, n2, n3⟩ := nd_pos hn
  have hx : ∀ k, tr.p = some k → top C ≠ some k := fun k e q => n3 k (top_mem q) (T.pm e)
  refine (hang_n hS (top C) tr.p (sideC C) (fun k e => hR.rt e) (fun p e => by
      cases C with
      | nil => cases e
      | cons f C => cases e; obtain ⟨h9, c9, e9⟩ := hC.1; exact ⟨_, e9⟩) hx).mono fun e w' hq => ?_
  obtain ⟨he, hS', hM⟩ := hq
  refine ⟨he, ⟨hS', hAp.hk _ _ _, hC.hang n1 (fun j m q => hkR_ne (fun e => n3 j m (T.pm e)) q) (fun a q e hq => ?_), hR.up n2 (fun k r e hr => ?_) (fun j m q => hkR_ne q (fun e => n3 j (top_mem e) m)), hn⟩, hM⟩
  · rw [e]; exact hkR_par hq (fun q => hx a q e)
  · rw [e]; exact hkR_self hr (hx k e)
theorem nePb {x : Option Nat} {r : Bool} (h : x.isSome = r) (a b : Operand) (w : World) : (do eqGuard .neq 65 a b (pp x) (.pointer none); binOp .neq 65 (pp x) (.pointer none)).run Try.prog w = .ok (.bool r) w := h ▸ neP x a b w
theorem nd_drop {A B : List Nat} {k : Nat} (h : (A ++ k :: B).Nodup) : (A ++ B).Nodup := (List.perm_middle.nodup_iff.1 h).of_cons
theorem Fre.of (h : HS D w t mb R root lk) {v : Value} (hD : ∀ b, ob v = some b → ¬ D b ∧ b ≠ mb.m ∧ ob mb.h ≠ some b) : Fre R t mb v := fun b hb => by
  obtain ⟨h1, h2, h3⟩ := hD b hb
  refine ⟨fun e => h1 (e ▸ h.dt), ?_, h2, h3, fun j q hj => ⟨fun e => h1 (h.ds hj (Or.inl e)).1, fun e => h1 (h.ds hj (Or.inr e)).1⟩⟩
  cases e : R b with
  | none => rfl
  | some q => exact absurd (h.dk e) h1
theorem take_B {C : Cx} {k : Nat} {i : Py} {s : Int} {r : T} {f : Int → Option Nat} {n : Nat} (hT : RS D w t mb C (.n k i s .e r) lk R root) (hM : OM w mb.m f n) (hw : (Lit.int .i64 i.i).wf = true) (hfi : (f i.i).isSome = true) (ot : (T.n k i s .e r).ok) (oc : okC C) (hb : csz C + (T.n k i s .e r).sz ≤ 8000) (hlk : 0 ≤ lk ∧ lk + 1 + 8 * C.length ≤ 4000000000000000000) (hmh : ob mb.h ≠ some mb.m) :
    Calls Try.prog 38 #[pt t 0, pt k 0] w fun e w' => e = .returned (.tuple #[]) ∧ ∃ lk' D', lk ≤ lk' ∧ lk' ≤ lk + 1 + 8 * C.length ∧ TS D' w' t mb [] (rebuild C r) lk' ∧ OM w' mb.m (fu f i.i none) (n - 1) ∧ Mk (fun j => D j ∨ j = mb.m) w w' ∧ (∀ j, D' j → D j) ∧ (∀ b, ob i.v = some b → ¬ D' b) ∧ Rw w' 10 i.v (i.vs.map V10.cells) := by
  obtain ⟨hS, hAp, hC, hR, hn⟩ := hT
  obtain ⟨hd1, hk⟩ := hR.1
  have h0c := csz_nn C
  have hkc : k ∉ adC C := fun m => (nd_pos hn).2.2 _ m (by unfold T.ad; simp)
  have hkt : k ∉ (T.ad r) := fun m => by
    have h2 := (nd_pos hn).2.1
    unfold T.ad at h2
    exact (List.nodup_cons.1 h2).1 (List.mem_append.2 (Or.inr m))
  refine w_enter 61 Try.func38 Try.ntmps38 rfl rfl ?_
  have M : Mk (fun j => D j ∨ j = mb.m) w w := Mk.refl _ _
  refine w_seq ?_
  refine w_any 9 [.inl (pt t 0), .inl (pt t 0), .inl (pt t 2), .inl (.map (some mb.m)), .inl (pt k 0), .inl (pt k 0), .inl (pt k 0), .inl (pt k 0), .inl (.int .i64 (i.i))] [] (by kernel_rfl) (by kernel_rfl) (by kernel_rfl) (by kernel_rfl) rfl (by kernel_rfl) (by kernel_rfl) late_nil ?_ ?_ ?_
  · exact Ds.none rfl
  · refine ea_cons ?_ (ea_cons ?_ (ea_cons ?_ (ea_cons ?_ (ea_cons ?_ (ea_cons ?_ (ea_cons ?_ (ea_cons ?_ (ea_cons ?_ (ea_nil)))))))))
    · exact og_eq (pt t 0) rfl (fun f wf hq hd K hK => go_run rfl (wo_mv (.tmp 0) (pt t 0) (fun _ => rfl) rfl (hK _ (Mo.refl _))))
    · exact og_eq (pt t 0) rfl (fun f wf hq hd K hK => go_run rfl (wo_nc (.tmp 6) t 0 rfl (hd 0 rfl) (hK _ (Mo.refl _))))
    · exact og_eq (pt t 2) rfl (fun f wf hq hd K hK => go_run rfl (wo_un (fun v => Instr.fieldAt 68 v 2) (.tmp 7) (pt t 0) (pt t 2) (fun _ => rfl) (hd 1 rfl) (by kernel_rfl) (hK _ (Mo.refl _))))
    · exact og_eq (.map (some mb.m)) rfl (fun f wf hq hd K hK => have hS := hS.mo hq; go_run rfl (wo_load 66 (.tmp 8) (pt t 2) (.map (some mb.m)) rfl (hd 2 rfl) (run_one hS.tr 66 2 rfl Try.underlying66 rfl) (hK _ (Mo.refl _))))
    · exact og_eq (pt k 0) rfl (fun f wf hq hd K hK => go_run rfl (wo_mv (.tmp 1) (pt k 0) (fun _ => rfl) rfl (hK _ (Mo.refl _))))
    · exact og_eq (pt k 0) rfl (fun f wf hq hd K hK => go_run rfl (wo_nc (.tmp 10) k 0 rfl (hd 4 rfl) (hK _ (Mo.refl _))))
    · exact og_eq (pt k 0) rfl (fun f wf hq hd K hK => go_run rfl (wo_un (fun v => Instr.fieldAt 93 v 0) (.tmp 11) (pt k 0) (pt k 0) (fun _ => rfl) (hd 5 rfl) (by kernel_rfl) (hK _ (Mo.refl _))))
    · exact og_eq (pt k 0) rfl (fun f wf hq hd K hK => go_run rfl (wo_un (fun v => Instr.fieldAt 83 v 0) (.tmp 12) (pt k 0) (pt k 0) (fun _ => rfl) (hd 6 rfl) (by kernel_rfl) (hK _ (Mo.refl _))))
    · exact og_eq (.int .i64 (i.i)) rfl (fun f wf hq hd K hK => have hS := hS.mo hq; go_run rfl (wo_load 2 (.tmp 13) (pt k 0) (.int .i64 (i.i)) rfl (hd 7 rfl) (run_one (hS.rc k _ hk) 2 0 rfl Try.underlying2 rfl) (hK _ (Mo.refl _))))
  intro kf1 w1 hq _ _
  replace hS := hS.mo hq
  replace hM := hM.mo hq
  replace M := M.trans hq
  clear hq
  refine wl_del (.tmp 9) (.tmp 14) mb.m i.i hM hfi hw rfl rfl rfl rfl rfl ?_
  intro w2 hM9 hK
  replace hM := hM9
  replace hS := hS.kept hK (fun j e q => hS.nb (by rw [← q]; exact e)) (fun b hb q => hmh (by rw [← q]; exact hb))
  replace M := M.tr hK (fun _ _ e => Or.inr e)
  clear hM9 hK
  refine w_nil ?_
  refine xn_then ?_
  refine w_seq ?_
  refine w_seq ?_
  refine w_reg ?_
  refine wl_mv (.tmp 1) (pt k 0) (fun _ => rfl) rfl rfl ?_
  refine wl_nc (.tmp 15) k 0 rfl rfl rfl ?_
  refine wl_un (fun v => Instr.fieldAt 93 v 2) (.tmp 16) (pt k 0) (pt k 3) (fun _ => rfl) rfl (by kernel_rfl) rfl ?_
  refine wl_bin (fun x y => Instr.indexAt 91 x y) (.tmp 17) (.const (.int .i64 (0))) (pt k 3) (.int .i64 (0)) (pt k 3) (fun _ => rfl) rfl rfl (by kernel_rfl) rfl ?_
  refine wl_load 65 (.tmp 18) (pt k 3) (pp none) rfl rfl (run_one (hS.rc k _ hk) 65 3 rfl Try.underlying65 rfl) rfl ?_
  refine wl_bin (fun x y => do eqGuard .neq 65 (.tmp 19) (.const (.pointer none)) x y; binOp .neq 65 x y) (.tmp 19) (.const (.pointer none)) (pp none) (pp none) (.bool false) (fun _ => rfl) rfl rfl (neP none _ _ _) rfl ?_
  refine wl_mv (.tmp 20) (.bool false) (fun _ => rfl) rfl rfl ?_
  refine wl_skip rfl ?_
  refine wl_skip rfl ?_
  refine wl_skip rfl ?_
  refine wl_skip rfl ?_
  refine wl_skip rfl ?_
  refine wl_skip rfl ?_
  refine wl_pick (.tmp 21) (.tmp 27) (.const (.bool false)) false (.bool false) (fun _ => rfl) rfl rfl rfl ?_
  refine w_nil ?_
  refine xn_then ?_
  refine w_condF rfl ?_
  refine w_skip ?_
  refine xn_then ?_
  refine w_seq ?_
  refine w_reg ?_
  refine wl_mv (.tmp 1) (pt k 0) (fun _ => rfl) rfl rfl ?_
  refine wl_nc (.tmp 32) k 0 rfl rfl rfl ?_
  refine wl_un (fun v => Instr.fieldAt 93 v 2) (.tmp 33) (pt k 0) (pt k 3) (fun _ => rfl) rfl (by kernel_rfl) rfl ?_
  refine wl_bin (fun x y => Instr.indexAt 91 x y) (.tmp 34) (.const (.int .i64 (0))) (pt k 3) (.int .i64 (0)) (pt k 3) (fun _ => rfl) rfl rfl (by kernel_rfl) rfl ?_
  refine wl_load 65 (.tmp 35) (pt k 3) (pp none) rfl rfl (run_one (hS.rc k _ hk) 65 3 rfl Try.underlying65 rfl) rfl ?_
  refine wl_mv (.tmp 36) (pp none) (fun _ => rfl) rfl rfl ?_
  refine w_nil ?_
  refine xn_then ?_
  refine w_seq ?_
  refine w_seq ?_
  refine w_reg ?_
  refine wl_mv (.tmp 4) (pp none) (fun _ => rfl) rfl rfl ?_
  refine wl_bin (fun x y => do eqGuard .eql 65 (.tmp 37) (.const (.pointer none)) x y; binOp .eql 65 x y) (.tmp 37) (.const (.pointer none)) (pp none) (pp none) (.bool true) (fun _ => rfl) rfl rfl (eqP none _ _ _) rfl ?_
  refine w_nil ?_
  refine xn_then ?_
  refine w_condT rfl ?_
  refine w_reg ?_
  refine wl_mv (.tmp 1) (pt k 0) (fun _ => rfl) rfl rfl ?_
  refine wl_nc (.tmp 39) k 0 rfl rfl rfl ?_
  refine wl_un (fun v => Instr.fieldAt 93 v 2) (.tmp 40) (pt k 0) (pt k 3) (fun _ => rfl) rfl (by kernel_rfl) rfl ?_
  refine wl_bin (fun x y => Instr.indexAt 91 x y) (.tmp 41) (.const (.int .i64 (1))) (pt k 3) (.int .i64 (1)) (pt k 4) (fun _ => rfl) rfl rfl (by kernel_rfl) rfl ?_
  refine wl_load 65 (.tmp 42) (pt k 4) (pp r.p) rfl rfl (run_one (hS.rc k _ hk) 65 4 rfl Try.underlying65 rfl) rfl ?_
  refine wl_mv (.tmp 43) (pp r.p) (fun _ => rfl) rfl rfl ?_
  refine w_nil ?_
  refine xn_then ?_
  refine w_seq ?_
  refine w_reg ?_
  refine wl_mv (.tmp 0) (pt t 0) (fun _ => rfl) rfl rfl ?_
  refine wl_mv (.tmp 4) (pp r.p) (fun _ => rfl) rfl rfl ?_
  refine wl_bsl [(0, (.tmp 45))] [pp r.p] 1 rfl rfl (bs1 r.p) rfl ?_
  intro g1 w3 hk hz hq Q1
  have nd_g1 : ¬ D g1 := fun e => by have := hS.lt e; omega
  replace hS := hS.mo hq
  replace hM := hM.mo hq
  replace M := M.trans hq
  clear hk hz hq
  refine wl_callg 34 [(.tmp 44), (.tmp 46)] _ [pt t 0, .slice (some ⟨g1, 0, none⟩) 1 1] (.tuple #[]) rfl rfl (fun _ _ => by kernel_rfl) (look_n [r.p] g1 hS Q1 nd_g1 (by simp only [List.length_cons, List.length_nil]; omega)) rfl ?_
  intro w4 hF
  have hc1 := cnt_le [r.p]
  simp only [List.length_cons, List.length_nil] at hc1
  obtain ⟨hS2, hM2⟩ := hF
  replace hS := hS2
  replace M := M.tr hM2 (fun _ _ e => Or.inl e)
  replace hM := hM.mk hM2 hS.nb
  clear hS2 hM2 Q1 nd_g1
  refine w_nil ?_
  refine xn_then ?_
  refine w_seq ?_
  refine w_reg ?_
  refine wl_mv (.tmp 1) (pt k 0) (fun _ => rfl) rfl rfl ?_
  refine wl_nc (.tmp 48) k 0 rfl rfl rfl ?_
  refine wl_un (fun v => Instr.fieldAt 93 v 1) (.tmp 49) (pt k 0) (pt k 2) (fun _ => rfl) rfl (by kernel_rfl) rfl ?_
  refine wl_load 65 (.tmp 50) (pt k 2) (pp (top C)) rfl rfl (run_one (hS.rc k _ hk) 65 2 rfl Try.underlying65 rfl) rfl ?_
  refine wl_mv (.tmp 51) (pp (top C)) (fun _ => rfl) rfl rfl ?_
  refine w_nil ?_
  refine xn_then ?_
  refine w_seq ?_
  refine w_reg ?_
  refine wl_mv (.tmp 0) (pt t 0) (fun _ => rfl) rfl rfl ?_
  refine wl_mv (.tmp 5) (pp (top C)) (fun _ => rfl) rfl rfl ?_
  refine wl_mv (.tmp 1) (pt k 0) (fun _ => rfl) rfl rfl ?_
  refine wl_call 53 [(.tmp 54)] _ [pt k 0] (.int .i64 (if sideC C then 1 else 0)) rfl rfl (fun _ _ => by kernel_rfl) (side_c hS hC hk (fun m => (nd_pos hn).2.2 _ m (by unfold T.ad; simp))) rfl ?_
  intro w5 hq
  replace hS := hS.mo hq
  replace hM := hM.mo hq
  replace M := M.trans hq
  clear hq
  refine wl_mv (.tmp 4) (pp r.p) (fun _ => rfl) rfl rfl ?_
  have hnb := hS.nb
  refine wl_callg 47 [(.tmp 52), (.tmp 53), (.tmp 55), (.tmp 56)] _ [pt t 0, pp (top C), .int .i64 (if sideC C then 1 else 0), pp r.p] (.tuple #[]) rfl rfl (fun _ _ => by kernel_rfl) (hangT2 (tr := r) hS hAp hC hR.2.2 (by have := hn; simp only [T.ad, List.nil_append] at this; exact nd_drop this)) rfl ?_
  intro w6 hF
  obtain ⟨hT, hM2⟩ := hF
  replace M := M.tr hM2 (fun _ _ e => Or.inl e)
  replace hM := hM.mk hM2 hS.nb
  clear hM2
  have hT9 := hT.drop ((hkR_ne (fun e => hkt (T.pm e)) (fun e => hkc (top_mem e))).trans hk) hkc hkt
  have hRv := (hT.hs.sv k _ ((hkR_ne (fun e => hkt (T.pm e)) (fun e => hkc (top_mem e))).trans hk)).1
  refine w_nil ?_
  refine xn_then ?_
  refine w_reg ?_
  refine wl_mv (.tmp 0) (pt t 0) (fun _ => rfl) rfl rfl ?_
  refine wl_mv (.tmp 5) (pp (top C)) (fun _ => rfl) rfl rfl ?_
  refine wl_callg 48 [(.tmp 58), (.tmp 59)] _ [pt t 0, pp (top C)] (.tuple #[]) rfl rfl (fun _ _ => by kernel_rfl) (settle_n ⟨_, _, hT9⟩ ot.2.2 oc (by simp only [T.sz] at hb; omega) (by omega)) rfl ?_
  intro w7 hF
  obtain ⟨lk2, hk1, hk2, hT2, hM2⟩ := hF
  replace hM := hM.mk hM2 (fun e => hnb e.1)
  replace M := M.tr hM2 (fun _ _ e => Or.inl e.1)
  replace hRv := hRv.kept hM2 (fun b hb e => e.2.2.1 hb)
  clear hM2
  refine w_nil ?_
  exact w_end0 rfl ⟨rfl, lk2, _, by omega, by omega, hT2, hM, M, fun j e => e.1, fun b hb e => e.2.2.1 hb, hRv⟩
theorem take_C {C : Cx} {k lk0 : Nat} {i li : Py} {s ls : Int} {la lb : T} {f : Int → Option Nat} {n : Nat} (hT : RS D w t mb C (.n k i s (.n lk0 li ls la lb) .e) lk R root) (hM : OM w mb.m f n) (hw : (Lit.int .i64 i.i).wf = true) (hfi : (f i.i).isSome = true) (ot : (T.n k i s (.n lk0 li ls la lb) .e).ok) (oc : okC C) (hb : csz C + (T.n k i s (.n lk0 li ls la lb) .e).sz ≤ 8000) (hlk : 0 ≤ lk ∧ lk + 1 + 8 * C.length ≤ 4000000000000000000) (hmh : ob mb.h ≠ some mb.m) :
    Calls Try.prog 38 #[pt t 0, pt k 0] w fun e w' => e = .returned (.tuple #[]) ∧ ∃ lk' D', lk ≤ lk' ∧ lk' ≤ lk + 1 + 8 * C.length ∧ TS D' w' t mb [] (rebuild C (.n lk0 li ls la lb)) lk' ∧ OM w' mb.m (fu f i.i none) (n - 1) ∧ Mk (fun j => D j ∨ j = mb.m) w w' ∧ (∀ j, D' j → D j) ∧ (∀ b, ob i.v = some b → ¬ D' b) ∧ Rw w' 10 i.v (i.vs.map V10.cells) := by
  obtain ⟨hS, hAp, hC, hR, hn⟩ := hT
  obtain ⟨hd1, hk⟩ := hR.1
  have h0c := csz_nn C
  have hkc : k ∉ adC C := fun m => (nd_pos hn).2.2 _ m (by unfold T.ad; simp)
  have hkt : k ∉ (T.ad (.n lk0 li ls la lb)) := fun m => by
    have h2 := (nd_pos hn).2.1
    unfold T.ad at h2
    exact (List.nodup_cons.1 h2).1 (List.mem_append.2 (Or.inl m))
  have h0l := T.sz_nn la; have h0m := T.sz_nn lb
  refine w_enter 61 Try.func38 Try.ntmps38 rfl rfl ?_
  have M : Mk (fun j => D j ∨ j = mb.m) w w := Mk.refl _ _
  refine w_seq ?_
  refine w_any 9 [.inl (pt t 0), .inl (pt t 0), .inl (pt t 2), .inl (.map (some mb.m)), .inl (pt k 0), .inl (pt k 0), .inl (pt k 0), .inl (pt k 0), .inl (.int .i64 (i.i))] [] (by kernel_rfl) (by kernel_rfl) (by kernel_rfl) (by kernel_rfl) rfl (by kernel_rfl) (by kernel_rfl) late_nil ?_ ?_ ?_
  · exact Ds.none rfl
  · refine ea_cons ?_ (ea_cons ?_ (ea_cons ?_ (ea_cons ?_ (ea_cons ?_ (ea_cons ?_ (ea_cons ?_ (ea_cons ?_ (ea_cons ?_ (ea_nil)))))))))
    · exact og_eq (pt t 0) rfl (fun f wf hq hd K hK => go_run rfl (wo_mv (.tmp 0) (pt t 0) (fun _ => rfl) rfl (hK _ (Mo.refl _))))
    · exact og_eq (pt t 0) rfl (fun f wf hq hd K hK => go_run rfl (wo_nc (.tmp 6) t 0 rfl (hd 0 rfl) (hK _ (Mo.refl _))))
    · exact og_eq (pt t 2) rfl (fun f wf hq hd K hK => go_run rfl (wo_un (fun v => Instr.fieldAt 68 v 2) (.tmp 7) (pt t 0) (pt t 2) (fun _ => rfl) (hd 1 rfl) (by kernel_rfl) (hK _ (Mo.refl _))))
    · exact og_eq (.map (some mb.m)) rfl (fun f wf hq hd K hK => have hS := hS.mo hq; go_run rfl (wo_load 66 (.tmp 8) (pt t 2) (.map (some mb.m)) rfl (hd 2 rfl) (run_one hS.tr 66 2 rfl Try.underlying66 rfl) (hK _ (Mo.refl _))))
    · exact og_eq (pt k 0) rfl (fun f wf hq hd K hK => go_run rfl (wo_mv (.tmp 1) (pt k 0) (fun _ => rfl) rfl (hK _ (Mo.refl _))))
    · exact og_eq (pt k 0) rfl (fun f wf hq hd K hK => go_run rfl (wo_nc (.tmp 10) k 0 rfl (hd 4 rfl) (hK _ (Mo.refl _))))
    · exact og_eq (pt k 0) rfl (fun f wf hq hd K hK => go_run rfl (wo_un (fun v => Instr.fieldAt 93 v 0) (.tmp 11) (pt k 0) (pt k 0) (fun _ => rfl) (hd 5 rfl) (by kernel_rfl) (hK _ (Mo.refl _))))
    · exact og_eq (pt k 0) rfl (fun f wf hq hd K hK => go_run rfl (wo_un (fun v => Instr.fieldAt 83 v 0) (.tmp 12) (pt k 0) (pt k 0) (fun _ => rfl) (hd 6 rfl) (by kernel_rfl) (hK _ (Mo.refl _))))
    · exact og_eq (.int .i64 (i.i)) rfl (fun f wf hq hd K hK => have hS := hS.mo hq; go_run rfl (wo_load 2 (.tmp 13) (pt k 0) (.int .i64 (i.i)) rfl (hd 7 rfl) (run_one (hS.rc k _ hk) 2 0 rfl Try.underlying2 rfl) (hK _ (Mo.refl _))))
  intro kf1 w1 hq _ _
  replace hS := hS.mo hq
  replace hM := hM.mo hq
  replace M := M.trans hq
  clear hq
  refine wl_del (.tmp 9) (.tmp 14) mb.m i.i hM hfi hw rfl rfl rfl rfl rfl ?_
  intro w2 hM9 hK
  replace hM := hM9
  replace hS := hS.kept hK (fun j e q => hS.nb (by rw [← q]; exact e)) (fun b hb q => hmh (by rw [← q]; exact hb))
  replace M := M.tr hK (fun _ _ e => Or.inr e)
  clear hM9 hK
  refine w_nil ?_
  refine xn_then ?_
  refine w_seq ?_
  refine w_seq ?_
  refine w_reg ?_
  refine wl_mv (.tmp 1) (pt k 0) (fun _ => rfl) rfl rfl ?_
  refine wl_nc (.tmp 15) k 0 rfl rfl rfl ?_
  refine wl_un (fun v => Instr.fieldAt 93 v 2) (.tmp 16) (pt k 0) (pt k 3) (fun _ => rfl) rfl (by kernel_rfl) rfl ?_
  refine wl_bin (fun x y => Instr.indexAt 91 x y) (.tmp 17) (.const (.int .i64 (0))) (pt k 3) (.int .i64 (0)) (pt k 3) (fun _ => rfl) rfl rfl (by kernel_rfl) rfl ?_
  refine wl_load 65 (.tmp 18) (pt k 3) (pt lk0 0) rfl rfl (run_one (hS.rc k _ hk) 65 3 rfl Try.underlying65 rfl) rfl ?_
  refine wl_bin (fun x y => do eqGuard .neq 65 (.tmp 19) (.const (.pointer none)) x y; binOp .neq 65 x y) (.tmp 19) (.const (.pointer none)) (pt lk0 0) (pp none) (.bool true) (fun _ => rfl) rfl rfl (neP (some lk0) _ _ _) rfl ?_
  refine wl_mv (.tmp 20) (.bool true) (fun _ => rfl) rfl rfl ?_
  refine wl_mv (.tmp 1) (pt k 0) (fun _ => rfl) rfl rfl ?_
  refine wl_nc (.tmp 22) k 0 rfl rfl rfl ?_
  refine wl_un (fun v => Instr.fieldAt 93 v 2) (.tmp 23) (pt k 0) (pt k 3) (fun _ => rfl) rfl (by kernel_rfl) rfl ?_
  refine wl_bin (fun x y => Instr.indexAt 91 x y) (.tmp 24) (.const (.int .i64 (1))) (pt k 3) (.int .i64 (1)) (pt k 4) (fun _ => rfl) rfl rfl (by kernel_rfl) rfl ?_
  refine wl_load 65 (.tmp 25) (pt k 4) (pp none) rfl rfl (run_one (hS.rc k _ hk) 65 4 rfl Try.underlying65 rfl) rfl ?_
  refine wl_bin (fun x y => do eqGuard .neq 65 (.tmp 26) (.const (.pointer none)) x y; binOp .neq 65 x y) (.tmp 26) (.const (.pointer none)) (pp none) (pp none) (.bool false) (fun _ => rfl) rfl rfl (neP none _ _ _) rfl ?_
  refine wl_pick (.tmp 21) (.tmp 27) (.const (.bool false)) true (.bool false) (fun _ => rfl) rfl rfl rfl ?_
  refine w_nil ?_
  refine xn_then ?_
  refine w_condF rfl ?_
  refine w_skip ?_
  refine xn_then ?_
  refine w_seq ?_
  refine w_reg ?_
  refine wl_mv (.tmp 1) (pt k 0) (fun _ => rfl) rfl rfl ?_
  refine wl_nc (.tmp 32) k 0 rfl rfl rfl ?_
  refine wl_un (fun v => Instr.fieldAt 93 v 2) (.tmp 33) (pt k 0) (pt k 3) (fun _ => rfl) rfl (by kernel_rfl) rfl ?_
  refine wl_bin (fun x y => Instr.indexAt 91 x y) (.tmp 34) (.const (.int .i64 (0))) (pt k 3) (.int .i64 (0)) (pt k 3) (fun _ => rfl) rfl rfl (by kernel_rfl) rfl ?_
  refine wl_load 65 (.tmp 35) (pt k 3) (pt lk0 0) rfl rfl (run_one (hS.rc k _ hk) 65 3 rfl Try.underlying65 rfl) rfl ?_
  refine wl_mv (.tmp 36) (pt lk0 0) (fun _ => rfl) rfl rfl ?_
  refine w_nil ?_
  refine xn_then ?_
  refine w_seq ?_
  refine w_seq ?_
  refine w_reg ?_
  refine wl_mv (.tmp 4) (pt lk0 0) (fun _ => rfl) rfl rfl ?_
  refine wl_bin (fun x y => do eqGuard .eql 65 (.tmp 37) (.const (.pointer none)) x y; binOp .eql 65 x y) (.tmp 37) (.const (.pointer none)) (pt lk0 0) (pp none) (.bool false) (fun _ => rfl) rfl rfl (eqP (some lk0) _ _ _) rfl ?_
  refine w_nil ?_
  refine xn_then ?_
  refine w_condF rfl ?_
  refine w_skip ?_
  refine xn_then ?_
  refine w_seq ?_
  refine w_reg ?_
  refine wl_mv (.tmp 0) (pt t 0) (fun _ => rfl) rfl rfl ?_
  refine wl_mv (.tmp 4) (pt lk0 0) (fun _ => rfl) rfl rfl ?_
  refine wl_bsl [(0, (.tmp 45))] [pp (some lk0)] 1 rfl rfl (bs1 (some lk0)) rfl ?_
  intro g1 w3 hk hz hq Q1
  have nd_g1 : ¬ D g1 := fun e => by have := hS.lt e; omega
  replace hS := hS.mo hq
  replace hM := hM.mo hq
  replace M := M.trans hq
  clear hk hz hq
  refine wl_callg 34 [(.tmp 44), (.tmp 46)] _ [pt t 0, .slice (some ⟨g1, 0, none⟩) 1 1] (.tuple #[]) rfl rfl (fun _ _ => by kernel_rfl) (look_n [(some lk0)] g1 hS Q1 nd_g1 (by simp only [List.length_cons, List.length_nil]; omega)) rfl ?_
  intro w4 hF
  have hc1 := cnt_le [(some lk0)]
  simp only [List.length_cons, List.length_nil] at hc1
  obtain ⟨hS2, hM2⟩ := hF
  replace hS := hS2
  replace M := M.tr hM2 (fun _ _ e => Or.inl e)
  replace hM := hM.mk hM2 hS.nb
  clear hS2 hM2 Q1 nd_g1
  refine w_nil ?_
  refine xn_then ?_
  refine w_seq ?_
  refine w_reg ?_
  refine wl_mv (.tmp 1) (pt k 0) (fun _ => rfl) rfl rfl ?_
  refine wl_nc (.tmp 48) k 0 rfl rfl rfl ?_
  refine wl_un (fun v => Instr.fieldAt 93 v 1) (.tmp 49) (pt k 0) (pt k 2) (fun _ => rfl) rfl (by kernel_rfl) rfl ?_
  refine wl_load 65 (.tmp 50) (pt k 2) (pp (top C)) rfl rfl (run_one (hS.rc k _ hk) 65 2 rfl Try.underlying65 rfl) rfl ?_
  refine wl_mv (.tmp 51) (pp (top C)) (fun _ => rfl) rfl rfl ?_
  refine w_nil ?_
  refine xn_then ?_
  refine w_seq ?_
  refine w_reg ?_
  refine wl_mv (.tmp 0) (pt t 0) (fun _ => rfl) rfl rfl ?_
  refine wl_mv (.tmp 5) (pp (top C)) (fun _ => rfl) rfl rfl ?_
  refine wl_mv (.tmp 1) (pt k 0) (fun _ => rfl) rfl rfl ?_
  refine wl_call 53 [(.tmp 54)] _ [pt k 0] (.int .i64 (if sideC C then 1 else 0)) rfl rfl (fun _ _ => by kernel_rfl) (side_c hS hC hk (fun m => (nd_pos hn).2.2 _ m (by unfold T.ad; simp))) rfl ?_
  intro w5 hq
  replace hS := hS.mo hq
  replace hM := hM.mo hq
  replace M := M.trans hq
  clear hq
  refine wl_mv (.tmp 4) (pt lk0 0) (fun _ => rfl) rfl rfl ?_
  have hnb := hS.nb
  refine wl_callg 47 [(.tmp 52), (.tmp 53), (.tmp 55), (.tmp 56)] _ [pt t 0, pp (top C), .int .i64 (if sideC C then 1 else 0), pt lk0 0] (.tuple #[]) rfl rfl (fun _ _ => by kernel_rfl) (hangT2 (tr := (.n lk0 li ls la lb)) hS hAp hC hR.2.1 (by have := hn; simp only [T.ad, List.append_nil] at this ⊢; exact nd_drop this)) rfl ?_
  intro w6 hF
  obtain ⟨hT, hM2⟩ := hF
  replace M := M.tr hM2 (fun _ _ e => Or.inl e)
  replace hM := hM.mk hM2 hS.nb
  clear hM2
  have hT9 := hT.drop ((hkR_ne (fun e => hkt (T.pm e)) (fun e => hkc (top_mem e))).trans hk) hkc hkt
  have hRv := (hT.hs.sv k _ ((hkR_ne (fun e => hkt (T.pm e)) (fun e => hkc (top_mem e))).trans hk)).1
  refine w_nil ?_
  refine xn_then ?_
  refine w_reg ?_
  refine wl_mv (.tmp 0) (pt t 0) (fun _ => rfl) rfl rfl ?_
  refine wl_mv (.tmp 5) (pp (top C)) (fun _ => rfl) rfl rfl ?_
  refine wl_callg 48 [(.tmp 58), (.tmp 59)] _ [pt t 0, pp (top C)] (.tuple #[]) rfl rfl (fun _ _ => by kernel_rfl) (settle_n ⟨_, _, hT9⟩ ot.2.1 oc (by simp only [T.sz] at hb ⊢; omega) (by omega)) rfl ?_
  intro w7 hF
  obtain ⟨lk2, hk1, hk2, hT2, hM2⟩ := hF
  replace hM := hM.mk hM2 (fun e => hnb e.1)
  replace M := M.tr hM2 (fun _ _ e => Or.inl e.1)
  replace hRv := hRv.kept hM2 (fun b hb e => e.2.2.1 hb)
  clear hM2
  refine w_nil ?_
  exact w_end0 rfl ⟨rfl, lk2, _, by omega, by omega, hT2, hM, M, fun j e => e.1, fun b hb e => e.2.2.1 hb, hRv⟩
end
end G
end Go.Proofs.Ythfemlhmnjfjiaa
/-
  The tree's takeOver.
-/
namespace Go.Proofs.Ythfemlhmnjfjiaa
open Go.RowKit
namespace G
section
variable {D : Nat → Prop} {w : World} {t : Nat} {mb : Hd} {R : Mp} {root : Option Nat} {lk : Int}
theorem RS.at2 (C : Cx) : ∀ (Ls : Cx) {tr1 : T}, RS D w t mb C (plug Ls tr1) lk R root → RS D w t mb (Ls ++ C) tr1 lk R root
  | [], _, h => h
  | f :: Ls, tr1, h => (RS.at2 C Ls (tr1 := f.jn tr1) h).dn.1
theorem RepC.deep {sc : List Int} {R : Mp} {root : Option Nat} {f : Fr} {C : Cx} : ∀ {Ls : Cx} {p : Option Nat}, RepC sc R root (Ls ++ f :: C) p → ∃ q h c, R f.k = some (f.rc (top C) q h c)
  | [], p, h => ⟨p, h.1⟩
  | _ :: Ls, _, h => RepC.deep (Ls := Ls) h.2.2
theorem top_app (Ls : Cx) (f g : Fr) (C : Cx) (h : f.k = g.k) : top (Ls ++ f :: C) = top (Ls ++ g :: C) := by
  cases Ls with
  | nil => show some f.k = some g.k; rw [h]
  | cons y Ls => rfl
theorem mem_deep : ∀ (L : Cx) (f : Fr) (C : Cx), f.k ∈ adC (L ++ f :: C)
  | [], f, C => by show f.k ∈ f.k :: (f.o.ad ++ adC C); simp
  | y :: L, f, C => by show f.k ∈ y.k :: (y.o.ad ++ adC (L ++ f :: C)); simp [mem_deep L f C]
theorem repC_setid {sc : List Int} {R : Mp} {root : Option Nat} {k : Nat} {i j : Py} {s : Int} {d : Bool} {o : T} {C : Cx} {q : Option Nat} {hh : Value} {cc : List Sm} (hq : R k = some ((⟨k, i, s, d, o⟩ : Fr).rc (top C) q hh cc)) : ∀ {Ls : Cx} {p : Option Nat}, RepC sc R root (Ls ++ ⟨k, i, s, d, o⟩ :: C) p → (adC (Ls ++ ⟨k, i, s, d, o⟩ :: C)).Nodup →
    RepC sc (ud R k ((⟨k, j, s, d, o⟩ : Fr).rc (top C) q hh cc)) root (Ls ++ ⟨k, j, s, d, o⟩ :: C) p
  | [], p, h, hn => by
    have hnd := List.nodup_cons.1 hn
    simp only [List.mem_append, not_or] at hnd
    obtain ⟨h9, c9, e9⟩ := h.1
    have e := e9.symm.trans hq
    refine ⟨⟨hh, cc, ?_⟩, Rep.ud hnd.1.1 h.2.1, RepC.ud hnd.1.2 h.2.2⟩
    rw [ud_same]
    simp only [Option.some.injEq, Fr.rc, Rc.mk.injEq] at e ⊢
    cases d <;> simp_all
  | g :: Ls, p, h, hn => by
    have hnd := List.nodup_cons.1 hn
    simp only [List.mem_append, not_or] at hnd
    have hk : ∀ (L : Cx), k ∈ adC (L ++ ⟨k, i, s, d, o⟩ :: C) := fun L => mem_deep L ⟨k, i, s, d, o⟩ C
    have hgk : g.k ≠ k := fun e => hnd.1.2 (by rw [e]; exact hk Ls)
    have hn2 := List.nodup_append.1 hnd.2
    have hgo : k ∉ g.o.ad := fun m => hn2.2.2 k m k (hk Ls) rfl
    obtain ⟨h9, c9, e9⟩ := h.1
    refine ⟨⟨h9, c9, (ud_ne _ _ hgk).trans ?_⟩, Rep.ud hgo h.2.1, repC_setid hq h.2.2 hn2.2.1⟩
    rw [e9]
    show some (g.rc (top (Ls ++ _)) p h9 c9) = _
    rw [top_app Ls ⟨k, i, s, d, o⟩ ⟨k, j, s, d, o⟩ C rfl]
    rfl
theorem adC_setid (k : Nat) (i j : Py) (s : Int) (d : Bool) (o : T) (C : Cx) : ∀ Ls : Cx, adC (Ls ++ ⟨k, i, s, d, o⟩ :: C) = adC (Ls ++ ⟨k, j, s, d, o⟩ :: C)
  | [] => rfl
  | g :: Ls => by show g.k :: (g.o.ad ++ adC (Ls ++ _)) = g.k :: (g.o.ad ++ adC (Ls ++ _)); rw [adC_setid k i j s d o C Ls]
theorem plug_mem : ∀ (C : Cx) {tr : T} {x : Py}, x ∈ tr.ids → x ∈ (plug C tr).ids
  | [], _, _, h => h
  | f :: C, tr, x, h => by
    unfold plug
    refine plug_mem C ?_
    unfold Fr.jn
    split <;> simp [T.ids, h]
theorem over_n {C : Cx} {k rk : Nat} {i ri : Py} {s rs : Int} {l ra rb : T} {f : Int → Option Nat} {n : Nat} (hT : RS D w t mb C (.n k i s l (.n rk ri rs ra rb)) lk R root) (hM : OM w mb.m f n) (hn1 : n ≤ 2000) (hwr : ∀ j ∈ (T.n rk ri rs ra rb).ids, (Lit.int .i64 j.i).wf = true) (ot : (T.n k i s l (.n rk ri rs ra rb)).ok) (hlk : 0 ≤ lk ∧ lk + 2 + (T.n rk ri rs ra rb).ht ≤ 4000000000000000000) (hmh : ob mb.h ≠ some mb.m) :
    Calls Try.prog 54 #[pt t 0, pt k 0] w fun e w' => ∃ (Ls : Cx) (kn : Nat) (i2 : Py) (s2 : Int) (b : T) (lk' : Int) (q : Option Nat) (qh : Value) (qc : List Sm), e = .returned (pt kn 0) ∧ plug Ls (.n kn i2 s2 .e b) = (T.n rk ri rs ra rb) ∧ okC Ls ∧ (∀ g ∈ Ls, g.d = false) ∧ (T.n kn i2 s2 .e b).ok ∧ csz Ls + b.sz + 1 = (T.n rk ri rs ra rb).sz ∧ lk ≤ lk' ∧ lk' ≤ lk + 2 + Ls.length ∧ Ls.length + 1 ≤ (T.n rk ri rs ra rb).ht ∧
      R k = some ⟨top C, l.p, q, s, i, qh, qc⟩ ∧ HS D w' t mb (ud R k ⟨top C, l.p, q, s, i2, qh, qc⟩) root lk' ∧ OM w' mb.m (fu f i2.i (some k)) (if (f i2.i).isSome then n else n + 1) ∧ Mk (fun j => D j ∨ j = mb.m) w w' ∧ Rw w' 10 i.v (i.vs.map V10.cells) := by
  obtain ⟨hS, hAp, hC0, hR0, hn0⟩ := hT
  obtain ⟨hd1, hk⟩ := hR0.1
  obtain ⟨H, eH⟩ : ∃ H, (T.n rk ri rs ra rb).ht = H := ⟨_, rfl⟩
  rw [eH] at hlk
  refine w_enter 49 Try.func54 Try.ntmps54 rfl rfl ?_
  have M : Mk (fun j => D j ∨ j = mb.m) w w := Mk.refl _ _
  refine w_seq ?_
  refine w_reg ?_
  refine wl_mv (.const (.pointer none)) (pp none) (fun _ => rfl) rfl rfl ?_
  refine w_nil ?_
  refine xn_then ?_
  refine w_seq ?_
  refine w_reg ?_
  refine wl_mv (.tmp 1) (pt k 0) (fun _ => rfl) rfl rfl ?_
  refine wl_nc (.tmp 6) k 0 rfl rfl rfl ?_
  refine wl_un (fun v => Instr.fieldAt 93 v 2) (.tmp 7) (pt k 0) (pt k 3) (fun _ => rfl) rfl (by kernel_rfl) rfl ?_
  refine wl_bin (fun x y => Instr.indexAt 91 x y) (.tmp 8) (.const (.int .i64 (1))) (pt k 3) (.int .i64 (1)) (pt k 4) (fun _ => rfl) rfl rfl (by kernel_rfl) rfl ?_
  refine wl_load 65 (.tmp 9) (pt k 4) (pt rk 0) rfl rfl (run_one (hS.rc k _ hk) 65 4 rfl Try.underlying65 rfl) rfl ?_
  refine wl_mv (.tmp 10) (pt rk 0) (fun _ => rfl) rfl rfl ?_
  refine w_nil ?_
  refine xn_then ?_
  refine w_seq ?_
  refine w_reg ?_
  refine wl_mv (.tmp 0) (pt t 0) (fun _ => rfl) rfl rfl ?_
  refine wl_mv (.tmp 1) (pt k 0) (fun _ => rfl) rfl rfl ?_
  refine wl_mv (.tmp 5) (pt rk 0) (fun _ => rfl) rfl rfl ?_
  refine wl_bsl [(0, (.tmp 12)), (1, (.tmp 13))] [pp (some k), pp (some rk)] 2 rfl rfl (bs2 (some k) (some rk)) rfl ?_
  intro g1 w1 hk hz hq Q1
  have nd_g1 : ¬ D g1 := fun e => by have := hS.lt e; omega
  replace hS := hS.mo hq
  replace hM := hM.mo hq
  replace M := M.trans hq
  clear hk hz hq
  refine wl_callg 34 [(.tmp 11), (.tmp 14)] _ [pt t 0, .slice (some ⟨g1, 0, none⟩) 2 2] (.tuple #[]) rfl rfl (fun _ _ => by kernel_rfl) (look_n [(some k), (some rk)] g1 hS Q1 nd_g1 (by simp only [List.length_cons, List.length_nil]; omega)) rfl ?_
  intro w2 hF
  have hc1 := cnt_le [(some k), (some rk)]
  simp only [List.length_cons, List.length_nil] at hc1
  obtain ⟨hS2, hM2⟩ := hF
  replace hS := hS2
  replace M := M.tr hM2 (fun _ _ e => Or.inl e)
  replace hM := hM.mk hM2 hS.nb
  clear hS2 hM2 Q1 nd_g1
  refine w_nil ?_
  refine xn_then ?_
  refine w_seq ?_
  refine w_block ?_
  refine w_loop (fun m l0 w1 => ∃ (Ls : Cx) (tr1 : T) (lk1 : Int) (k1 : Nat), m = tr1.ht ∧ look l0 0 = pt t 0 ∧ look l0 1 = pt k 0 ∧ look l0 5 = pt k1 0 ∧ tr1.p = some k1 ∧ HS D w1 t mb R root lk1 ∧ OM w1 mb.m f n ∧ tr1.ok ∧ okC Ls ∧ (∀ g ∈ Ls, g.d = false) ∧ plug Ls tr1 = (T.n rk ri rs ra rb) ∧ csz Ls + tr1.sz = (T.n rk ri rs ra rb).sz ∧ lk ≤ lk1 ∧ lk1 ≤ lk + 2 + Ls.length ∧ Ls.length + tr1.ht ≤ H ∧ Mk (fun j => D j ∨ j = mb.m) w w1) _ ⟨[], (T.n rk ri rs ra rb), ((lk) + cnt [(some k), (some rk)]), rk, rfl, rfl, rfl, rfl, rfl, hS, hM, ot.2.2, fun _ h => (by cases h), fun _ h => (by cases h), rfl, by simp only [csz]; omega, by omega, by simp only [List.length_nil]; omega, by rw [eH]; simp, M⟩ ?_
  clear M hS hM hk
  rintro m l1 wl ⟨Ls, tr1, lk1, k1, rfl, e0, e1, e5, hp1, hS, hM, ok1, okL, hLd, hpl, hcs, hl1, hl2, hht, M⟩
  obtain ⟨_, _, hC, hR, hn⟩ := RS.at2 ((⟨k, i, s, true, l⟩ : Fr) :: C) Ls (tr1 := tr1) (R := R) (root := root) (by rw [hpl]; exact (RS.dn (f := (⟨k, i, s, true, l⟩ : Fr)) (C := C) (tr := (T.n rk ri rs ra rb)) ⟨hS, hAp, hC0, hR0, hn0⟩).1)
  have hlk0 : 0 ≤ lk1 := by omega
  cases tr1 with
  | e => cases hp1
  | n kk i2 s2 a b =>
    cases hp1
    obtain ⟨⟨hd2, hkk⟩, ha, hb⟩ := hR
    have h0a := T.sz_nn a; have h0b := T.sz_nn b
    simp only [T.ht] at hht
    have hml := Nat.le_max_left a.ht b.ht
    cases a with
    | n ak ai az al ar =>
      refine w_seq ?_
      refine w_seq ?_
      refine w_reg ?_
      refine wl_mv (.tmp 5) (pt k1 0) (fun _ => rfl) e5 rfl ?_
      refine wl_nc (.tmp 16) k1 0 rfl rfl rfl ?_
      refine wl_un (fun v => Instr.fieldAt 93 v 2) (.tmp 17) (pt k1 0) (pt k1 3) (fun _ => rfl) rfl (by kernel_rfl) rfl ?_
      refine wl_bin (fun x y => Instr.indexAt 91 x y) (.tmp 18) (.const (.int .i64 (0))) (pt k1 3) (.int .i64 (0)) (pt k1 3) (fun _ => rfl) rfl rfl (by kernel_rfl) rfl ?_
      refine wl_load 65 (.tmp 19) (pt k1 3) (pt ak 0) rfl rfl (run_one (hS.rc k1 _ hkk) 65 3 rfl Try.underlying65 rfl) rfl ?_
      refine wl_bin (fun x y => do eqGuard .neq 65 (.tmp 20) (.const (.pointer none)) x y; binOp .neq 65 x y) (.tmp 20) (.const (.pointer none)) (pt ak 0) (pp none) (.bool true) (fun _ => rfl) rfl rfl (neP (some ak) _ _ _) rfl ?_
      refine w_nil ?_
      refine xn_then ?_
      refine w_condT rfl ?_
      refine w_skip ?_
      refine xn_then ?_
      refine w_block ?_
      refine w_seq ?_
      refine w_reg ?_
      refine wl_mv (.tmp 5) (pt k1 0) (fun _ => rfl) e5 rfl ?_
      refine wl_nc (.tmp 22) k1 0 rfl rfl rfl ?_
      refine wl_un (fun v => Instr.fieldAt 93 v 2) (.tmp 23) (pt k1 0) (pt k1 3) (fun _ => rfl) rfl (by kernel_rfl) rfl ?_
      refine wl_bin (fun x y => Instr.indexAt 91 x y) (.tmp 24) (.const (.int .i64 (0))) (pt k1 3) (.int .i64 (0)) (pt k1 3) (fun _ => rfl) rfl rfl (by kernel_rfl) rfl ?_
      refine wl_load 65 (.tmp 25) (pt k1 3) (pt ak 0) rfl rfl (run_one (hS.rc k1 _ hkk) 65 3 rfl Try.underlying65 rfl) rfl ?_
      refine wl_mv (.tmp 26) (pt ak 0) (fun _ => rfl) rfl rfl ?_
      refine w_nil ?_
      refine xn_then ?_
      refine w_reg ?_
      refine wl_mv (.tmp 0) (pt t 0) (fun _ => rfl) e0 rfl ?_
      refine wl_mv (.tmp 5) (pt ak 0) (fun _ => rfl) rfl rfl ?_
      refine wl_bsl [(0, (.tmp 28))] [pp (some ak)] 1 rfl rfl (bs1 (some ak)) rfl ?_
      intro g11 w11 hk hz hq Q11
      have nd_g11 : ¬ D g11 := fun e => by have := hS.lt e; omega
      replace hS := hS.mo hq
      replace hM := hM.mo hq
      replace M := M.trans hq
      clear hk hz hq
      refine wl_callg 34 [(.tmp 27), (.tmp 29)] _ [pt t 0, .slice (some ⟨g11, 0, none⟩) 1 1] (.tuple #[]) rfl rfl (fun _ _ => by kernel_rfl) (look_n [(some ak)] g11 hS Q11 nd_g11 (by simp only [List.length_cons, List.length_nil]; omega)) rfl ?_
      intro w12 hF
      have hc1 := cnt_le [(some ak)]
      simp only [List.length_cons, List.length_nil] at hc1
      obtain ⟨hS2, hM2⟩ := hF
      replace hS := hS2
      replace M := M.tr hM2 (fun _ _ e => Or.inl e)
      replace hM := hM.mk hM2 hS.nb
      clear hS2 hM2 Q11 nd_g11
      refine w_nil ?_
      refine xn_blk ?_
      exact xn_loop (T.n ak ai az al ar).ht (by simp only [T.ht]; omega) ⟨(⟨k1, i2, s2, false, b⟩ : Fr) :: Ls, (T.n ak ai az al ar), ((lk1) + cnt [(some ak)]), ak, rfl, e0, e1, rfl, rfl, hS, hM, ok1.2.1, fun g hg => by rcases List.mem_cons.1 hg with rfl | hg; exact ok1.2.2; exact okL g hg, fun g hg => by rcases List.mem_cons.1 hg with rfl | hg; rfl; exact hLd g hg, hpl, by simp only [csz, T.sz] at hcs ⊢; omega, by omega, by simp only [List.length_cons]; omega, by simp only [List.length_cons]; omega, M⟩
    | e =>
      obtain ⟨q, qh, qc, hqk⟩ := hC.deep
      unfold Fr.rc at hqk
      replace hqk : R k = some ⟨top C, l.p, q, s, i, qh, qc⟩ := hqk
      have n1 := nd_pos hn
      have hne : k ≠ k1 := fun e => n1.2.2 k (mem_deep Ls (⟨k, i, s, true, l⟩ : Fr) C) (by rw [e]; unfold T.ad; simp)
      have ne_k_k1 := hne
      have hq0 := hqk
      have hi2v : ∃ p n c, i2.v = .slice p n c := by obtain ⟨p9, c9, e9, _⟩ := (hS.sv k1 _ hkk).1; exact ⟨p9, _, c9, e9⟩
      obtain ⟨vp, vn, vc, hi2v⟩ := hi2v
      have hi2m : i2 ∈ (T.n rk ri rs ra rb).ids := by rw [← hpl]; exact plug_mem Ls (by unfold T.ids; simp)
      refine w_seq ?_
      refine w_seq ?_
      refine w_reg ?_
      refine wl_mv (.tmp 5) (pt k1 0) (fun _ => rfl) e5 rfl ?_
      refine wl_nc (.tmp 16) k1 0 rfl rfl rfl ?_
      refine wl_un (fun v => Instr.fieldAt 93 v 2) (.tmp 17) (pt k1 0) (pt k1 3) (fun _ => rfl) rfl (by kernel_rfl) rfl ?_
      refine wl_bin (fun x y => Instr.indexAt 91 x y) (.tmp 18) (.const (.int .i64 (0))) (pt k1 3) (.int .i64 (0)) (pt k1 3) (fun _ => rfl) rfl rfl (by kernel_rfl) rfl ?_
      refine wl_load 65 (.tmp 19) (pt k1 3) (pp none) rfl rfl (run_one (hS.rc k1 _ hkk) 65 3 rfl Try.underlying65 rfl) rfl ?_
      refine wl_bin (fun x y => do eqGuard .neq 65 (.tmp 20) (.const (.pointer none)) x y; binOp .neq 65 x y) (.tmp 20) (.const (.pointer none)) (pp none) (pp none) (.bool false) (fun _ => rfl) rfl rfl (neP none _ _ _) rfl ?_
      refine w_nil ?_
      refine xn_then ?_
      refine w_condF rfl ?_
      refine w_exit ?_
      refine xx_then ?_
      refine xx_then ?_
      refine xx_blk ?_
      refine xn_then ?_
      refine w_seq ?_
      refine w_reg ?_
      refine wl_mv (.tmp 1) (pt k 0) (fun _ => rfl) e1 rfl ?_
      refine wl_mv (.tmp 5) (pt k1 0) (fun _ => rfl) e5 rfl ?_
      refine wl_nc (.tmp 32) k1 0 rfl rfl rfl ?_
      refine wl_un (fun v => Instr.fieldAt 93 v 0) (.tmp 33) (pt k1 0) (pt k1 0) (fun _ => rfl) rfl (by kernel_rfl) rfl ?_
      refine wl_load 83 (.tmp 34) (pt k1 0) (.agg #[.int .i64 (i2.i), i2.v]) rfl rfl (run_row (hS.rc k1 _ hkk) 83 0 2 [.int .i64 (i2.i), i2.v] rfl Try.underlying83 rfl zs83) rfl ?_
      refine wl_nc (.tmp 31) k 0 rfl rfl rfl ?_
      refine wl_un (fun v => Instr.fieldAt 93 v 0) (.tmp 36) (pt k 0) (pt k 0) (fun _ => rfl) rfl (by kernel_rfl) rfl ?_
      refine wl_stx2 83 (.tmp 37) (.tmp 35) k 0 #[.int .i64 (i2.i), i2.v] [.int .i64 (i.i), i.v, pp (top C), pp l.p, pp q, .int .i64 (s), qh] [.int .i64 (i2.i), i2.v, pp (top C), pp l.p, pp q, .int .i64 (s), qh] (hS.rc k _ hqk) rfl rfl rfl rfl rfl zs83 (by rw [hi2v]; rfl) rfl rfl ?_
      intro w11 hT hA9
      replace hM := hM.mk ((Mk.refl D _).st hT (hS.dk hqk)) hS.nb
      replace M := M.st hT (Or.inl (hS.dk hqk))
      have hRd : ∀ b, ob i.v = some b → D b := fun b hb => (hS.ds hqk (Or.inl hb)).1
      have hRv := (hS.sv k _ hqk).1.kept (Mk.st1 hT) (fun b hb q => by have := (hS.ds hqk (Or.inl hb)).2.2; rw [q, hqk] at this; cases this)
      replace hS := hS.row hqk hkk hT hA9
      clear hT hA9
      obtain ⟨R1, eR1⟩ : ∃ X, X = ud R k ⟨(top C), l.p, q, (s), i2, qh, qc⟩ := ⟨_, rfl⟩
      rw [← eR1] at hS
      replace hkk : R1 k1 = some ⟨(top (Ls ++ (⟨k, i, s, true, l⟩ : Fr) :: C)), none, b.p, (s2), i2, hd2, (agg mb.sc ((T.ids .e) ++ i2 :: b.ids))⟩ := by rw [eR1, ud_ne _ _ ne_k_k1.symm]; exact hkk
      have hqk : R1 k = some ⟨(top C), l.p, q, (s), i2, qh, qc⟩ := by rw [eR1]; exact ud_same _ _ _
      refine w_nil ?_
      refine xn_then ?_
      refine w_seq ?_
      refine w_any 10 [.inl (pt t 0), .inl (pt t 0), .inl (pt t 2), .inl (.map (some mb.m)), .inl (pt k 0), .inl (pt k 0), .inl (pt k 0), .inl (pt k 0), .inl (.int .i64 (i2.i)), .inl (pt k 0)] [] (by kernel_rfl) (by kernel_rfl) (by kernel_rfl) (by kernel_rfl) rfl (by kernel_rfl) (by kernel_rfl) late_nil ?_ ?_ ?_
      · exact Ds.none rfl
      · refine ea_cons ?_ (ea_cons ?_ (ea_cons ?_ (ea_cons ?_ (ea_cons ?_ (ea_cons ?_ (ea_cons ?_ (ea_cons ?_ (ea_cons ?_ (ea_cons ?_ (ea_nil))))))))))
        · exact og_eq (pt t 0) rfl (fun f wf hq hd K hK => go_run rfl (wo_mv (.tmp 0) (pt t 0) (fun _ => rfl) e0 (hK _ (Mo.refl _))))
        · exact og_eq (pt t 0) rfl (fun f wf hq hd K hK => go_run rfl (wo_nc (.tmp 38) t 0 rfl (hd 0 rfl) (hK _ (Mo.refl _))))
        · exact og_eq (pt t 2) rfl (fun f wf hq hd K hK => go_run rfl (wo_un (fun v => Instr.fieldAt 68 v 2) (.tmp 39) (pt t 0) (pt t 2) (fun _ => rfl) (hd 1 rfl) (by kernel_rfl) (hK _ (Mo.refl _))))
        · exact og_eq (.map (some mb.m)) rfl (fun f wf hq hd K hK => have hS := hS.mo hq; go_run rfl (wo_load 66 (.tmp 40) (pt t 2) (.map (some mb.m)) rfl (hd 2 rfl) (run_one hS.tr 66 2 rfl Try.underlying66 rfl) (hK _ (Mo.refl _))))
        · exact og_eq (pt k 0) rfl (fun f wf hq hd K hK => go_run rfl (wo_mv (.tmp 1) (pt k 0) (fun _ => rfl) e1 (hK _ (Mo.refl _))))
        · exact og_eq (pt k 0) rfl (fun f wf hq hd K hK => go_run rfl (wo_nc (.tmp 42) k 0 rfl (hd 4 rfl) (hK _ (Mo.refl _))))
        · exact og_eq (pt k 0) rfl (fun f wf hq hd K hK => go_run rfl (wo_un (fun v => Instr.fieldAt 93 v 0) (.tmp 43) (pt k 0) (pt k 0) (fun _ => rfl) (hd 5 rfl) (by kernel_rfl) (hK _ (Mo.refl _))))
        · exact og_eq (pt k 0) rfl (fun f wf hq hd K hK => go_run rfl (wo_un (fun v => Instr.fieldAt 83 v 0) (.tmp 44) (pt k 0) (pt k 0) (fun _ => rfl) (hd 6 rfl) (by kernel_rfl) (hK _ (Mo.refl _))))
        · exact og_eq (.int .i64 (i2.i)) rfl (fun f wf hq hd K hK => have hS := hS.mo hq; go_run rfl (wo_load 2 (.tmp 45) (pt k 0) (.int .i64 (i2.i)) rfl (hd 7 rfl) (run_one (hS.rc k _ hqk) 2 0 rfl Try.underlying2 rfl) (hK _ (Mo.refl _))))
        · exact og_eq (pt k 0) rfl (fun f wf hq hd K hK => go_run rfl (wo_mv (.tmp 1) (pt k 0) (fun _ => rfl) e1 (hK _ (Mo.refl _))))
      intro kf12 w12 hq _ _
      replace hS := hS.mo hq
      replace hM := hM.mo hq
      replace hRv := hRv.mo hq
      replace M := M.trans hq
      clear hq
      refine wl_mup (.tmp 41) (.tmp 46) (.tmp 47) mb.m i2.i k hM (by omega) (hwr i2 hi2m) rfl rfl rfl rfl rfl rfl ?_
      intro w13 hM9 hK
      replace hM := hM9
      replace hRv := hRv.kept hK (fun b hb q => hS.nb (q ▸ hRd b hb))
      replace hS := hS.kept hK (fun j e q => hS.nb (by rw [← q]; exact e)) (fun b hb q => hmh (by rw [← q]; exact hb))
      replace M := M.tr hK (fun _ _ e => Or.inr e)
      clear hM9 hK
      refine w_nil ?_
      refine xn_then ?_
      refine w_seq ?_
      refine w_reg ?_
      refine wl_mv (.tmp 5) (pt k1 0) (fun _ => rfl) e5 rfl ?_
      refine wl_mv (.tmp 48) (pt k1 0) (fun _ => rfl) rfl rfl ?_
      refine w_nil ?_
      refine xn_then ?_
      refine w_ret ?_
      exact w_ret1 _ (pt k1 0) rfl rfl ⟨Ls, k1, i2, s2, b, (lk1), q, qh, qc, rfl, hpl, okL, hLd, ok1, by simp only [T.sz] at hcs ⊢; omega, by omega, by omega, by rw [eH]; omega, hq0, by rw [← eR1]; exact hS, hM, M, hRv⟩
end
end G
end Go.Proofs.Ythfemlhmnjfjiaa
/-
  The tree's take, where both sides are there.
-/
namespace Go.Proofs.Ythfemlhmnjfjiaa
open Go.RowKit
namespace G
section
variable {D : Nat → Prop} {w : World} {t : Nat} {mb : Hd} {R : Mp} {root : Option Nat} {lk : Int}
theorem hangT3 {C : Cx} {tr : T} {p u : Option Nat} (hS : HS D w t mb R root lk) (hC : RepC mb.sc R root C p) (hR : Rep mb.sc R u tr) (hn : (adC C ++ tr.ad).Nodup) :
    Calls Try.prog 47 #[pt t 0, pp (top C), .int .i64 (if sideC C then 1 else 0), pp tr.p] w fun e w' => e = .returned (.tuple #[]) ∧ (HS D w' t mb (hkR R (top C) (sideC C) tr.p) (hkO root (top C) tr.p) lk ∧ RepC mb.sc (hkR R (top C) (sideC C) tr.p) (hkO root (top C) tr.p) C tr.p ∧ Rep mb.sc (hkR R (top C) (sideC C) tr.p) (top C) tr) ∧ Mk D w w' := by
  obtain ⟨n1, n2, n3⟩ := nd_pos hn
  have hx : ∀ k, tr.p = some k → top C ≠ some k := fun k e q => n3 k (top_mem q) (T.pm e)
  refine (hang_n hS (top C) tr.p (sideC C) (fun k e => hR.rt e) (fun p e => by
      cases C with
      | nil => cases e
      | cons f C => cases e; obtain ⟨h9, c9, e9⟩ := hC.1; exact ⟨_, e9⟩) hx).mono fun e w' hq => ?_
  obtain ⟨he, hS', hM⟩ := hq
  refine ⟨he, ⟨hS', hC.hang n1 (fun j m q => hkR_ne (fun e => n3 j m (T.pm e)) q) (fun a q e hq => ?_), hR.up n2 (fun k r e hr => ?_) (fun j m q => hkR_ne q (fun e => n3 j (top_mem e) m))⟩, hM⟩
  · rw [e]; exact hkR_par hq (fun q => hx a q e)
  · rw [e]; exact hkR_self hr (hx k e)
/-- Without a record whose row another one has taken, and without that one's old values. -/
def Do (D : Nat → Prop) (kn : Nat) (h v : Value) (j : Nat) : Prop := D j ∧ j ≠ kn ∧ ob h ≠ some j ∧ ob v ≠ some j
theorem over_drop {D0 : Nat → Prop} {R2 : Mp} {root2 : Option Nat} {w2 : World} {lk2 : Int} (hS0 : HS D0 w t mb R root lk) (hAp : Ap R) (hS : HS D w2 t mb R2 root2 lk2) {k kn : Nat} {r q : Rc} (e : R k = some r) (e2 : R kn = some q) (ne : k ≠ kn)
    (h2 : ∀ {j z}, R2 j = some z → ∃ a, R j = some a ∧ z.h = a.h ∧ (j ≠ k → z.i = a.i)) (h3 : ∀ {z}, R2 k = some z → z.i = q.i) (h4 : ∃ z, R2 kn = some z) : HS (Do D kn q.h r.i.v) w2 t mb (rm R2 kn) root2 lk2 ∧ Ap (rm R2 kn) := by
  obtain ⟨z4, h4⟩ := h4
  refine ⟨hS.less kn (fun j hj => hj.1) ⟨hS.dt, Ne.symm (hS.ne h4), fun x => (hS0.ds e2 (Or.inr x)).2.1 rfl, fun x => (hS0.ds e (Or.inl x)).2.1 rfl⟩ (fun {j z} hj hn => ?_) (fun {j z b} hj hn hb => ?_), ?_⟩
  · obtain ⟨a, ha, _, _⟩ := h2 hj
    exact ⟨hS.dk hj, hn, fun x => (by rw [(hS0.ds e2 (Or.inr x)).2.2] at ha; cases ha), fun x => (by rw [(hS0.ds e (Or.inl x)).2.2] at ha; cases ha)⟩
  · obtain ⟨a, ha, hh, hi⟩ := h2 hj
    refine ⟨(hS.ds hj hb).1, fun x => (by have := (hS.ds hj hb).2.2; rw [x, h4] at this; cases this), fun x => ?_, fun x => ?_⟩
    · rcases hb with hb | hb
      · by_cases hjk : j = k
        · subst hjk; rw [h3 hj] at hb; exact hAp.hv e2 e2 x hb
        · rw [hi hjk] at hb; exact hAp.hv e2 ha x hb
      · rw [hh] at hb; exact hAp.hh e2 ha (Ne.symm hn) x hb
    · rcases hb with hb | hb
      · by_cases hjk : j = k
        · subst hjk; rw [h3 hj] at hb; exact hAp.vv e e2 ne x hb
        · rw [hi hjk] at hb; exact hAp.vv e ha (Ne.symm hjk) x hb
      · rw [hh] at hb; exact hAp.hv ha e hb x
  · refine hAp.perm2 (fun j => if j = k then kn else j) (fun j => j) (fun {a b x y} ha hb hab => ?_) (fun _ _ e => e) (fun {j z} hj => ?_)
    · have n1 := (rm_or ha).1
      have n2 := (rm_or hb).1
      split at hab <;> split at hab <;> omega
    · obtain ⟨_, hj⟩ := rm_or hj
      obtain ⟨a, ha, hh, hi⟩ := h2 hj
      by_cases hjk : j = k
      · subst hjk; rw [if_pos rfl]; exact ⟨q, a, e2, ha, by rw [h3 hj], hh⟩
      · rw [if_neg hjk]; exact ⟨a, a, ha, ha, by rw [hi hjk], hh⟩
/-- The tree's blocks without one that nothing of it owns. -/
theorem HS.shrink (h : HS D w t mb R root lk) {v : Value} (ht : ob v ≠ some t) (hr : ∀ {j q}, R j = some q → ob v ≠ some j) (hs : ∀ {j q b}, R j = some q → ob q.i.v = some b ∨ ob q.h = some b → ob v ≠ some b) : HS (fun j => D j ∧ ob v ≠ some j) w t mb R root lk :=
  ⟨h.tr, h.sc, fun b hb e => h.sd b hb e.1, h.rc, h.cb, h.sv, h.ss, h.mt, ⟨h.dt, ht⟩, fun hj => ⟨h.dk hj, hr hj⟩, fun hj hb => ⟨⟨(h.ds hj hb).1, hs hj hb⟩, (h.ds hj hb).2⟩, fun e => h.lt e.1, fun e => h.nb e.1, h.nc⟩
theorem csz_app (f : Fr) (C : Cx) : ∀ Ls : Cx, csz (Ls ++ f :: C) = csz Ls + 1 + f.o.sz + csz C
  | [] => by show 1 + f.o.sz + csz C = 0 + 1 + f.o.sz + csz C; omega
  | g :: Ls => by
    have := csz_app f C Ls
    show 1 + g.o.sz + csz (Ls ++ f :: C) = 1 + g.o.sz + csz Ls + 1 + f.o.sz + csz C
    omega
theorem okC_app {f : Fr} {C Ls : Cx} (h1 : okC Ls) (h2 : f.o.ok) (h3 : okC C) : okC (Ls ++ f :: C) := fun g hg => by
  rcases List.mem_append.1 hg with hg | hg
  · exact h1 g hg
  · rcases List.mem_cons.1 hg with rfl | hg
    · exact h2
    · exact h3 g hg
theorem take_A {C : Cx} {k lk0 rk : Nat} {i li ri : Py} {s ls rs : Int} {la lb ra rb : T} {f : Int → Option Nat} {n : Nat} (hT : RS D w t mb C (.n k i s (.n lk0 li ls la lb) (.n rk ri rs ra rb)) lk R root) (hM : OM w mb.m f n) (hn1 : n ≤ 2000) (hw : (Lit.int .i64 i.i).wf = true) (hfi : (f i.i).isSome = true) (ot : (T.n k i s (.n lk0 li ls la lb) (.n rk ri rs ra rb)).ok) (oc : okC C) (hb : csz C + (T.n k i s (.n lk0 li ls la lb) (.n rk ri rs ra rb)).sz ≤ 8000) (hlk : 0 ≤ lk ∧ lk + 20 + 10 * (T.n rk ri rs ra rb).ht + 8 * C.length ≤ 4000000000000000000) (hwr : ∀ j ∈ (T.n rk ri rs ra rb).ids, (Lit.int .i64 j.i).wf = true) (hmh : ob mb.h ≠ some mb.m) :
    Calls Try.prog 38 #[pt t 0, pt k 0] w fun e w' => e = .returned (.tuple #[]) ∧ ∃ (Ls : Cx) (kn : Nat) (i2 : Py) (s2 : Int) (b : T) (lk' : Int) (D' : Nat → Prop), plug Ls (.n kn i2 s2 .e b) = (.n rk ri rs ra rb) ∧ okC Ls ∧ (∀ g ∈ Ls, g.d = false) ∧ (T.n kn i2 s2 .e b).ok ∧ lk ≤ lk' ∧ lk' ≤ lk + 3 + Ls.length + 8 * (Ls.length + 1 + C.length) ∧ Ls.length + 1 ≤ (T.n rk ri rs ra rb).ht ∧ TS D' w' t mb [] (rebuild (Ls ++ (⟨k, i2, s, true, (.n lk0 li ls la lb)⟩ : Fr) :: C) b) lk' ∧ OM w' mb.m (fu (fu f i.i none) i2.i (some k)) (if (fu f i.i none i2.i).isSome then n - 1 else n - 1 + 1) ∧ Mk (fun j => D j ∨ j = mb.m) w w' ∧ (∀ j, D' j → D j) ∧ (∀ b, ob i.v = some b → ¬ D' b) ∧ Rw w' 10 i.v (i.vs.map V10.cells) := by
  obtain ⟨hS, hAp, hC, hR, hn⟩ := hT
  obtain ⟨hd1, hk⟩ := hR.1
  have h0c := csz_nn C
  have h0l := T.sz_nn la; have h0m := T.sz_nn lb
  refine w_enter 61 Try.func38 Try.ntmps38 rfl rfl ?_
  have M : Mk (fun j => D j ∨ j = mb.m) w w := Mk.refl _ _
  refine w_seq ?_
  refine w_any 9 [.inl (pt t 0), .inl (pt t 0), .inl (pt t 2), .inl (.map (some mb.m)), .inl (pt k 0), .inl (pt k 0), .inl (pt k 0), .inl (pt k 0), .inl (.int .i64 (i.i))] [] (by kernel_rfl) (by kernel_rfl) (by kernel_rfl) (by kernel_rfl) rfl (by kernel_rfl) (by kernel_rfl) late_nil ?_ ?_ ?_
  · exact Ds.none rfl
  · refine ea_cons ?_ (ea_cons ?_ (ea_cons ?_ (ea_cons ?_ (ea_cons ?_ (ea_cons ?_ (ea_cons ?_ (ea_cons ?_ (ea_cons ?_ (ea_nil)))))))))
    · exact og_eq (pt t 0) rfl (fun f wf hq hd K hK => go_run rfl (wo_mv (.tmp 0) (pt t 0) (fun _ => rfl) rfl (hK _ (Mo.refl _))))
    · exact og_eq (pt t 0) rfl (fun f wf hq hd K hK => go_run rfl (wo_nc (.tmp 6) t 0 rfl (hd 0 rfl) (hK _ (Mo.refl _))))
    · exact og_eq (pt t 2) rfl (fun f wf hq hd K hK => go_run rfl (wo_un (fun v => Instr.fieldAt 68 v 2) (.tmp 7) (pt t 0) (pt t 2) (fun _ => rfl) (hd 1 rfl) (by kernel_rfl) (hK _ (Mo.refl _))))
    · exact og_eq (.map (some mb.m)) rfl (fun f wf hq hd K hK => have hS := hS.mo hq; go_run rfl (wo_load 66 (.tmp 8) (pt t 2) (.map (some mb.m)) rfl (hd 2 rfl) (run_one hS.tr 66 2 rfl Try.underlying66 rfl) (hK _ (Mo.refl _))))
    · exact og_eq (pt k 0) rfl (fun f wf hq hd K hK => go_run rfl (wo_mv (.tmp 1) (pt k 0) (fun _ => rfl) rfl (hK _ (Mo.refl _))))
    · exact og_eq (pt k 0) rfl (fun f wf hq hd K hK => go_run rfl (wo_nc (.tmp 10) k 0 rfl (hd 4 rfl) (hK _ (Mo.refl _))))
    · exact og_eq (pt k 0) rfl (fun f wf hq hd K hK => go_run rfl (wo_un (fun v => Instr.fieldAt 93 v 0) (.tmp 11) (pt k 0) (pt k 0) (fun _ => rfl) (hd 5 rfl) (by kernel_rfl) (hK _ (Mo.refl _))))
    · exact og_eq (pt k 0) rfl (fun f wf hq hd K hK => go_run rfl (wo_un (fun v => Instr.fieldAt 83 v 0) (.tmp 12) (pt k 0) (pt k 0) (fun _ => rfl) (hd 6 rfl) (by kernel_rfl) (hK _ (Mo.refl _))))
    · exact og_eq (.int .i64 (i.i)) rfl (fun f wf hq hd K hK => have hS := hS.mo hq; go_run rfl (wo_load 2 (.tmp 13) (pt k 0) (.int .i64 (i.i)) rfl (hd 7 rfl) (run_one (hS.rc k _ hk) 2 0 rfl Try.underlying2 rfl) (hK _ (Mo.refl _))))
  intro kf1 w1 hq _ _
  replace hS := hS.mo hq
  replace hM := hM.mo hq
  replace M := M.trans hq
  clear hq
  refine wl_del (.tmp 9) (.tmp 14) mb.m i.i hM hfi hw rfl rfl rfl rfl rfl ?_
  intro w2 hM9 hK
  replace hM := hM9
  replace hS := hS.kept hK (fun j e q => hS.nb (by rw [← q]; exact e)) (fun b hb q => hmh (by rw [← q]; exact hb))
  replace M := M.tr hK (fun _ _ e => Or.inr e)
  clear hM9 hK
  refine w_nil ?_
  refine xn_then ?_
  refine w_seq ?_
  refine w_seq ?_
  refine w_reg ?_
  refine wl_mv (.tmp 1) (pt k 0) (fun _ => rfl) rfl rfl ?_
  refine wl_nc (.tmp 15) k 0 rfl rfl rfl ?_
  refine wl_un (fun v => Instr.fieldAt 93 v 2) (.tmp 16) (pt k 0) (pt k 3) (fun _ => rfl) rfl (by kernel_rfl) rfl ?_
  refine wl_bin (fun x y => Instr.indexAt 91 x y) (.tmp 17) (.const (.int .i64 (0))) (pt k 3) (.int .i64 (0)) (pt k 3) (fun _ => rfl) rfl rfl (by kernel_rfl) rfl ?_
  refine wl_load 65 (.tmp 18) (pt k 3) (pt lk0 0) rfl rfl (run_one (hS.rc k _ hk) 65 3 rfl Try.underlying65 rfl) rfl ?_
  refine wl_bin (fun x y => do eqGuard .neq 65 (.tmp 19) (.const (.pointer none)) x y; binOp .neq 65 x y) (.tmp 19) (.const (.pointer none)) (pt lk0 0) (pp none) (.bool true) (fun _ => rfl) rfl rfl (neP (some lk0) _ _ _) rfl ?_
  refine wl_mv (.tmp 20) (.bool true) (fun _ => rfl) rfl rfl ?_
  refine wl_mv (.tmp 1) (pt k 0) (fun _ => rfl) rfl rfl ?_
  refine wl_nc (.tmp 22) k 0 rfl rfl rfl ?_
  refine wl_un (fun v => Instr.fieldAt 93 v 2) (.tmp 23) (pt k 0) (pt k 3) (fun _ => rfl) rfl (by kernel_rfl) rfl ?_
  refine wl_bin (fun x y => Instr.indexAt 91 x y) (.tmp 24) (.const (.int .i64 (1))) (pt k 3) (.int .i64 (1)) (pt k 4) (fun _ => rfl) rfl rfl (by kernel_rfl) rfl ?_
  refine wl_load 65 (.tmp 25) (pt k 4) (pt rk 0) rfl rfl (run_one (hS.rc k _ hk) 65 4 rfl Try.underlying65 rfl) rfl ?_
  refine wl_bin (fun x y => do eqGuard .neq 65 (.tmp 26) (.const (.pointer none)) x y; binOp .neq 65 x y) (.tmp 26) (.const (.pointer none)) (pt rk 0) (pp none) (.bool true) (fun _ => rfl) rfl rfl (neP (some rk) _ _ _) rfl ?_
  refine wl_pick (.tmp 21) (.tmp 27) (.const (.bool false)) true (.bool true) (fun _ => rfl) rfl rfl rfl ?_
  refine w_nil ?_
  refine xn_then ?_
  refine w_condT rfl ?_
  refine w_reg ?_
  refine wl_mv (.tmp 0) (pt t 0) (fun _ => rfl) rfl rfl ?_
  refine wl_mv (.tmp 1) (pt k 0) (fun _ => rfl) rfl rfl ?_
  refine wl_callx 54 [(.tmp 29), (.tmp 30)] _ [pt t 0, pt k 0] rfl rfl (fun _ _ => by kernel_rfl) (over_n ⟨hS, hAp, hC, hR, hn⟩ hM (by omega) hwr ot (by omega) hmh) rfl ?_
  rintro v9 w3 ⟨Ls, kn, i2, s2, b, lk3, q, qh, qc, ev, hpl, okL, hLd, hok, hsz, hk3, hk4, hlt, hq0, hS9, hM9, hM8, hRv⟩
  refine ⟨_, ev, ?_⟩
  clear ev
  have hS0 := hS
  replace hM := hM9
  replace M := M.same hM8
  clear hM9 hM8
  obtain ⟨_, _, hCz, hRz, hnz⟩ := RS.at2 ((⟨k, i, s, true, (.n lk0 li ls la lb)⟩ : Fr) :: C) Ls (tr1 := .n kn i2 s2 .e b) (R := R) (root := root) (by rw [hpl]; exact (RS.dn (f := (⟨k, i, s, true, (.n lk0 li ls la lb)⟩ : Fr)) (C := C) (tr := (.n rk ri rs ra rb)) ⟨hS, hAp, hC, hR, hn⟩).1)
  obtain ⟨⟨hd3, hkn0⟩, _, hbz⟩ := hRz
  have hkm := mem_deep Ls (⟨k, i, s, true, (.n lk0 li ls la lb)⟩ : Fr) C
  have nz := nd_pos hnz
  have hkkn : k ≠ kn := fun e => nz.2.2 k hkm (by rw [e]; unfold T.ad; simp)
  have hkb : k ∉ b.ad := fun m => nz.2.2 k hkm (by unfold T.ad; simp [m])
  obtain ⟨R9, eR9⟩ : ∃ X, X = ud R k ⟨top C, (T.n lk0 li ls la lb).p, q, s, i2, qh, qc⟩ := ⟨_, rfl⟩
  rw [← eR9] at hS9
  have hC9 : RepC mb.sc R9 root (Ls ++ (⟨k, i2, s, true, (.n lk0 li ls la lb)⟩ : Fr) :: C) (some kn) := by rw [eR9]; exact repC_setid (j := i2) (d := true) (o := (.n lk0 li ls la lb)) hq0 hCz nz.1
  have hkn : R9 kn = some ⟨top (Ls ++ (⟨k, i2, s, true, (.n lk0 li ls la lb)⟩ : Fr) :: C), none, b.p, s2, i2, hd3, agg mb.sc ((T.ids .e) ++ i2 :: b.ids)⟩ := by rw [eR9, ud_ne _ _ (Ne.symm hkkn), ← top_app Ls (⟨k, i, s, true, (.n lk0 li ls la lb)⟩ : Fr) (⟨k, i2, s, true, (.n lk0 li ls la lb)⟩ : Fr) C rfl]; exact hkn0
  have hb9 : Rep mb.sc R9 (some kn) b := by rw [eR9]; exact hbz.ud hkb
  have hn9 : (adC (Ls ++ (⟨k, i2, s, true, (.n lk0 li ls la lb)⟩ : Fr) :: C) ++ (T.n kn i2 s2 .e b).ad).Nodup := by rw [← adC_setid k i i2 s true (.n lk0 li ls la lb) C Ls]; exact hnz
  have oc9 := okC_app (f := (⟨k, i2, s, true, (.n lk0 li ls la lb)⟩ : Fr)) okL ot.2.1 oc
  have hcz := csz_app (⟨k, i2, s, true, (.n lk0 li ls la lb)⟩ : Fr) C Ls
  have hln : (Ls ++ (⟨k, i2, s, true, (.n lk0 li ls la lb)⟩ : Fr) :: C).length = Ls.length + 1 + C.length := by simp; omega
  generalize hC9e : Ls ++ (⟨k, i2, s, true, (.n lk0 li ls la lb)⟩ : Fr) :: C = C9 at *
  replace hS9 := hS9.shrink (v := i.v) (fun e => (hS0.ds hq0 (Or.inl e)).2.1 rfl) (fun {j z} hj e => by rw [eR9] at hj; have h9 := (hS0.ds hq0 (Or.inl e)).2.2; rcases ud_or hj with ⟨rfl, _⟩ | ⟨_, hj⟩; rw [hq0] at h9; cases h9; rw [hj] at h9; cases h9) (fun {j z b9} hj hb9 e => by rw [eR9] at hj; rcases ud_or hj with ⟨rfl, rfl⟩ | ⟨hne, hj⟩; rcases hb9 with hb9 | hb9; exact hAp.vv hq0 hkn0 hkkn e hb9; exact hAp.hv hq0 hq0 hb9 e; rcases hb9 with hb9 | hb9; exact hAp.vv hq0 hj (Ne.symm hne) e hb9; exact hAp.hv hj hq0 hb9 e)
  replace hS := hS9
  clear hS9 hCz hbz hnz nz
  have h0b := T.sz_nn b
  simp only [T.sz] at hb hsz hcz
  refine wl_mv (.tmp 31) (pt kn 0) (fun _ => rfl) rfl rfl ?_
  refine w_nil ?_
  refine xn_then ?_
  refine w_seq ?_
  refine w_reg ?_
  refine wl_mv (.tmp 1) (pt kn 0) (fun _ => rfl) rfl rfl ?_
  refine wl_nc (.tmp 32) kn 0 rfl rfl rfl ?_
  refine wl_un (fun v => Instr.fieldAt 93 v 2) (.tmp 33) (pt kn 0) (pt kn 3) (fun _ => rfl) rfl (by kernel_rfl) rfl ?_
  refine wl_bin (fun x y => Instr.indexAt 91 x y) (.tmp 34) (.const (.int .i64 (0))) (pt kn 3) (.int .i64 (0)) (pt kn 3) (fun _ => rfl) rfl rfl (by kernel_rfl) rfl ?_
  refine wl_load 65 (.tmp 35) (pt kn 3) (pp none) rfl rfl (run_one (hS.rc kn _ hkn) 65 3 rfl Try.underlying65 rfl) rfl ?_
  refine wl_mv (.tmp 36) (pp none) (fun _ => rfl) rfl rfl ?_
  refine w_nil ?_
  refine xn_then ?_
  refine w_seq ?_
  refine w_seq ?_
  refine w_reg ?_
  refine wl_mv (.tmp 4) (pp none) (fun _ => rfl) rfl rfl ?_
  refine wl_bin (fun x y => do eqGuard .eql 65 (.tmp 37) (.const (.pointer none)) x y; binOp .eql 65 x y) (.tmp 37) (.const (.pointer none)) (pp none) (pp none) (.bool true) (fun _ => rfl) rfl rfl (eqP none _ _ _) rfl ?_
  refine w_nil ?_
  refine xn_then ?_
  refine w_condT rfl ?_
  refine w_reg ?_
  refine wl_mv (.tmp 1) (pt kn 0) (fun _ => rfl) rfl rfl ?_
  refine wl_nc (.tmp 39) kn 0 rfl rfl rfl ?_
  refine wl_un (fun v => Instr.fieldAt 93 v 2) (.tmp 40) (pt kn 0) (pt kn 3) (fun _ => rfl) rfl (by kernel_rfl) rfl ?_
  refine wl_bin (fun x y => Instr.indexAt 91 x y) (.tmp 41) (.const (.int .i64 (1))) (pt kn 3) (.int .i64 (1)) (pt kn 4) (fun _ => rfl) rfl rfl (by kernel_rfl) rfl ?_
  refine wl_load 65 (.tmp 42) (pt kn 4) (pp b.p) rfl rfl (run_one (hS.rc kn _ hkn) 65 4 rfl Try.underlying65 rfl) rfl ?_
  refine wl_mv (.tmp 43) (pp b.p) (fun _ => rfl) rfl rfl ?_
  refine w_nil ?_
  refine xn_then ?_
  refine w_seq ?_
  refine w_reg ?_
  refine wl_mv (.tmp 0) (pt t 0) (fun _ => rfl) rfl rfl ?_
  refine wl_mv (.tmp 4) (pp b.p) (fun _ => rfl) rfl rfl ?_
  refine wl_bsl [(0, (.tmp 45))] [pp b.p] 1 rfl rfl (bs1 b.p) rfl ?_
  intro g1 w4 hk hz hq Q1
  have nd_g1 : ¬ (fun j => D j ∧ ob i.v ≠ some j) g1 := fun e => by have := hS.lt e; omega
  replace hS := hS.mo hq
  replace hM := hM.mo hq
  replace hRv := hRv.mo hq
  replace M := M.trans hq
  clear hk hz hq
  refine wl_callg 34 [(.tmp 44), (.tmp 46)] _ [pt t 0, .slice (some ⟨g1, 0, none⟩) 1 1] (.tuple #[]) rfl rfl (fun _ _ => by kernel_rfl) (look_n [b.p] g1 hS Q1 nd_g1 (by simp only [List.length_cons, List.length_nil]; omega)) rfl ?_
  intro w5 hF
  have hc1 := cnt_le [b.p]
  simp only [List.length_cons, List.length_nil] at hc1
  obtain ⟨hS2, hM2⟩ := hF
  replace hS := hS2
  replace M := M.tr hM2 (fun _ _ e => Or.inl e.1)
  replace hM := hM.mk hM2 hS.nb
  replace hRv := hRv.kept hM2 (fun b hb e => e.2 hb)
  clear hS2 hM2 Q1 nd_g1
  refine w_nil ?_
  refine xn_then ?_
  refine w_seq ?_
  refine w_reg ?_
  refine wl_mv (.tmp 1) (pt kn 0) (fun _ => rfl) rfl rfl ?_
  refine wl_nc (.tmp 48) kn 0 rfl rfl rfl ?_
  refine wl_un (fun v => Instr.fieldAt 93 v 1) (.tmp 49) (pt kn 0) (pt kn 2) (fun _ => rfl) rfl (by kernel_rfl) rfl ?_
  refine wl_load 65 (.tmp 50) (pt kn 2) (pp ((top C9))) rfl rfl (run_one (hS.rc kn _ hkn) 65 2 rfl Try.underlying65 rfl) rfl ?_
  refine wl_mv (.tmp 51) (pp ((top C9))) (fun _ => rfl) rfl rfl ?_
  refine w_nil ?_
  refine xn_then ?_
  refine w_seq ?_
  refine w_reg ?_
  refine wl_mv (.tmp 0) (pt t 0) (fun _ => rfl) rfl rfl ?_
  refine wl_mv (.tmp 5) (pp ((top C9))) (fun _ => rfl) rfl rfl ?_
  refine wl_mv (.tmp 1) (pt kn 0) (fun _ => rfl) rfl rfl ?_
  refine wl_call 53 [(.tmp 54)] _ [pt kn 0] (.int .i64 (if sideC C9 then 1 else 0)) rfl rfl (fun _ _ => by kernel_rfl) (side_c hS hC9 hkn (fun m => (nd_pos hn9).2.2 _ m (by unfold T.ad; simp))) rfl ?_
  intro w6 hq
  replace hS := hS.mo hq
  replace hM := hM.mo hq
  replace hRv := hRv.mo hq
  replace M := M.trans hq
  clear hq
  refine wl_mv (.tmp 4) (pp b.p) (fun _ => rfl) rfl rfl ?_
  have hnb := hS.nb
  refine wl_callg 47 [(.tmp 52), (.tmp 53), (.tmp 55), (.tmp 56)] _ [pt t 0, pp ((top C9)), .int .i64 (if sideC C9 then 1 else 0), pp b.p] (.tuple #[]) rfl rfl (fun _ _ => by kernel_rfl) (hangT3 (tr := b) hS hC9 hb9 (by have := hn9; simp only [T.ad, List.nil_append] at this; exact nd_drop this)) rfl ?_
  intro w7 hF
  obtain ⟨⟨hS2, hC2, hR2⟩, hM2⟩ := hF
  replace M := M.tr hM2 (fun _ _ e => Or.inl e.1)
  replace hM := hM.mk hM2 hS.nb
  replace hRv := hRv.kept hM2 (fun b hb e => e.2 hb)
  clear hM2
  have h2 : ∀ {j z}, hkR R9 (top C9) (sideC C9) b.p j = some z → ∃ a, R j = some a ∧ z.h = a.h ∧ (j ≠ k → z.i = a.i) := fun {j z} hj => by
    obtain ⟨r1, h1, _, h5, h6, _⟩ := hkR_of hj
    rw [eR9] at h1
    rcases ud_or h1 with ⟨rfl, rfl⟩ | ⟨hne, h1⟩
    · exact ⟨_, hq0, h6, fun h => absurd rfl h⟩
    · exact ⟨r1, h1, h6, fun _ => h5⟩
  have h3 : ∀ {z}, hkR R9 (top C9) (sideC C9) b.p k = some z → z.i = i2 := fun {z} hj => by
    obtain ⟨r1, h1, _, h5, _, _⟩ := hkR_of hj
    rw [eR9, ud_same] at h1
    cases h1; exact h5
  have h4 : ∃ z, hkR R9 (top C9) (sideC C9) b.p kn = some z := by obtain ⟨z, hz, _⟩ := hkR_to (a := top C9) (x := b.p) (d := sideC C9) hkn; exact ⟨z, hz⟩
  obtain ⟨hS3, hAp3⟩ := over_drop hS0 hAp hS2 hq0 hkn0 hkkn h2 h3 h4
  have hknc : kn ∉ adC C9 := fun m => (nd_pos hn9).2.2 _ m (by unfold T.ad; simp)
  have hknb : kn ∉ b.ad := fun m => by have h9 := (nd_pos hn9).2.1; unfold T.ad at h9; exact (List.nodup_cons.1 h9).1 (List.mem_append.2 (Or.inr m))
  have hT9 : RS _ _ t mb C9 b _ _ _ := ⟨hS3, hAp3, RepC.same (fun _ m => rm_ne (fun q => hknc (q ▸ m))) hC2, Rep.same (fun _ m => rm_ne (fun q => hknb (q ▸ m))) hR2, by have := hn9; simp only [T.ad, List.nil_append] at this; exact nd_drop this⟩
  refine w_nil ?_
  refine xn_then ?_
  refine w_reg ?_
  refine wl_mv (.tmp 0) (pt t 0) (fun _ => rfl) rfl rfl ?_
  refine wl_mv (.tmp 5) (pp ((top C9))) (fun _ => rfl) rfl rfl ?_
  refine wl_callg 48 [(.tmp 58), (.tmp 59)] _ [pt t 0, pp ((top C9))] (.tuple #[]) rfl rfl (fun _ _ => by kernel_rfl) (settle_n ⟨_, _, hT9⟩ hok.2.2 oc9 (by omega) (by omega)) rfl ?_
  intro w8 hF
  obtain ⟨lk2, hk1, hk2, hT2, hM2⟩ := hF
  replace hM := hM.mk hM2 (fun e => hnb e.1)
  replace M := M.tr hM2 (fun _ _ e => Or.inl e.1.1)
  replace hRv := hRv.kept hM2 (fun b hb e => e.2.2.2 hb)
  clear hM2
  refine w_nil ?_
  exact w_end0 rfl ⟨rfl, Ls, kn, i2, s2, b, lk2, Do (fun j => D j ∧ ob i.v ≠ some j) kn hd3 i.v, hpl, okL, hLd, hok, by omega, by omega, hlt, by rw [hC9e]; exact hT2, hM, M, fun j e => e.1.1, fun b hb e => e.2.2.2 hb, hRv⟩
end
end G
end Go.Proofs.Ythfemlhmnjfjiaa
/-
  Ids with their records' blocks; what the map says of a tree.
-/
namespace Go.Proofs.Ythfemlhmnjfjiaa
open Go.RowKit
namespace G
/-- The ids with their records' blocks, in their order. -/
def T.kv : T → List (Int × Nat)
  | .e => []
  | .n k i _ l r => l.kv ++ (i.i, k) :: r.kv
theorem T.kv_ids : ∀ tr : T, tr.kv.map (·.1) = tr.ids.map (·.i)
  | .e => rfl
  | .n _ _ _ l r => by unfold T.kv T.ids; simp [T.kv_ids l, T.kv_ids r]
theorem lightL_kv (k : Nat) (i : Py) (l r : T) : (lightL k i l r).kv = l.kv ++ (i.i, k) :: r.kv := by
  unfold lightL
  cases l with
  | e => rfl
  | n kk ii ss a b =>
    cases hd : decide (2 * (a.sz + 1) ≤ b.sz + 1) <;> cases b <;> simp [hd, T.kv]
theorem lightR_kv (k : Nat) (i : Py) (l r : T) : (lightR k i l r).kv = l.kv ++ (i.i, k) :: r.kv := by
  unfold lightR
  cases r with
  | e => rfl
  | n kk ii ss b a =>
    cases hd : decide (2 * (a.sz + 1) ≤ b.sz + 1) <;> cases b <;> simp [hd, T.kv]
theorem bal_kv (k : Nat) (i : Py) (l r : T) : (bal k i l r).kv = l.kv ++ (i.i, k) :: r.kv := by
  unfold bal
  split
  · exact lightL_kv k i l r
  · split
    · exact lightR_kv k i l r
    · rfl
def preC : Cx → List (Int × Nat)
  | [] => []
  | f :: C => preC C ++ (if f.d then f.o.kv ++ [(f.i.i, f.k)] else [])
def posC : Cx → List (Int × Nat)
  | [] => []
  | f :: C => (if f.d then [] else (f.i.i, f.k) :: f.o.kv) ++ posC C
theorem plug_kv : ∀ (C : Cx) (tr : T), (plug C tr).kv = preC C ++ tr.kv ++ posC C
  | [], tr => by show tr.kv = [] ++ tr.kv ++ []; simp
  | f :: C, tr => by
    show (plug C (f.jn tr)).kv = _
    rw [plug_kv C]
    unfold Fr.jn
    show _ = (preC C ++ (if f.d then f.o.kv ++ [(f.i.i, f.k)] else [])) ++ tr.kv ++ ((if f.d then [] else (f.i.i, f.k) :: f.o.kv) ++ posC C)
    cases f.d <;> simp [T.kv]
theorem rebuild_kv : ∀ (C : Cx) (tr : T), (rebuild C tr).kv = preC C ++ tr.kv ++ posC C
  | [], tr => by show tr.kv = [] ++ tr.kv ++ []; simp
  | f :: C, tr => by
    show (rebuild C (balF f tr)).kv = _
    rw [rebuild_kv C]
    unfold balF
    show _ = (preC C ++ (if f.d then f.o.kv ++ [(f.i.i, f.k)] else [])) ++ tr.kv ++ ((if f.d then [] else (f.i.i, f.k) :: f.o.kv) ++ posC C)
    cases f.d <;> simp [bal_kv]
theorem T.kv_len (tr : T) : (tr.kv.length : Int) = tr.sz := by
  have h := congrArg List.length (T.kv_ids tr)
  rw [T.sz_ids]
  simp only [List.length_map] at h
  rw [h]
theorem pre_len : ∀ C : Cx, ((preC C).length : Int) = ix C
  | [] => rfl
  | f :: C => by
    have := pre_len C
    have h2 := T.kv_len f.o
    show ((preC C ++ (if f.d then f.o.kv ++ [(f.i.i, f.k)] else [])).length : Int) = (if f.d then f.o.sz + 1 else 0) + ix C
    cases f.d <;> simp <;> omega
/-- Where an id lies. -/
def adr (l : List (Int × Nat)) (id : Int) : Option Nat := l.lookup id
theorem adr_mid {A B : List (Int × Nat)} {id : Int} {k : Nat} (h : id ∉ A.map (·.1)) : adr (A ++ (id, k) :: B) id = some k := by
  unfold adr
  induction A with
  | nil => simp
  | cons x A ih =>
    simp only [List.map_cons, List.mem_cons, not_or] at h
    have : (id == x.1) = false := beq_eq_false_iff_ne.2 h.1
    show List.lookup id (x :: (A ++ (id, k) :: B)) = some k
    rw [List.lookup_cons, this]
    exact ih h.2
theorem adr_off {A B : List (Int × Nat)} {id j : Int} {k : Nat} (h : j ≠ id) : adr (A ++ (id, k) :: B) j = adr (A ++ B) j := by
  unfold adr
  induction A with
  | nil =>
    have : (j == id) = false := beq_eq_false_iff_ne.2 h
    show List.lookup j ((id, k) :: B) = List.lookup j B
    rw [List.lookup_cons, this]
  | cons x A ih =>
    show List.lookup j (x :: (A ++ (id, k) :: B)) = List.lookup j (x :: (A ++ B))
    rw [List.lookup_cons, List.lookup_cons, ih]
theorem adr_none {l : List (Int × Nat)} {id : Int} (h : id ∉ l.map (·.1)) : adr l id = none := by
  unfold adr
  induction l with
  | nil => rfl
  | cons x l ih =>
    simp only [List.map_cons, List.mem_cons, not_or] at h
    have : (id == x.1) = false := beq_eq_false_iff_ne.2 h.1
    rw [List.lookup_cons, this]
    exact ih h.2
theorem adr_some {l : List (Int × Nat)} {id : Int} {k : Nat} (h : adr l id = some k) : (id, k) ∈ l := by
  unfold adr at h
  induction l with
  | nil => cases h
  | cons x l ih =>
    rw [List.lookup_cons] at h
    by_cases e : id = x.1
    · subst e
      simp at h
      subst h
      simp
    · rw [beq_eq_false_iff_ne.2 e] at h
      exact List.mem_cons_of_mem _ (ih h)
theorem adr_is {l : List (Int × Nat)} {id : Int} : (adr l id).isSome = true ↔ id ∈ l.map (·.1) := by
  constructor
  · intro h
    obtain ⟨k, hk⟩ := Option.isSome_iff_exists.1 h
    exact List.mem_map.2 ⟨_, adr_some hk, rfl⟩
  · intro h
    cases hq : adr l id with
    | some k => rfl
    | none =>
      exfalso
      unfold adr at hq
      induction l with
      | nil => cases h
      | cons x l ih =>
        rw [List.lookup_cons] at hq
        by_cases e : id = x.1
        · rw [beq_iff_eq.2 e] at hq; cases hq
        · rw [beq_eq_false_iff_ne.2 e] at hq
          simp only [List.map_cons, List.mem_cons] at h
          exact ih (h.resolve_left e) hq
theorem fu_ins {A B : List (Int × Nat)} {id : Int} {k : Nat} (h : id ∉ A.map (·.1)) : fu (adr (A ++ B)) id (some k) = adr (A ++ (id, k) :: B) := by
  funext j
  by_cases e : j = id
  · subst e; rw [fu_same, adr_mid h]
  · rw [fu_ne _ _ e, adr_off e]
theorem fu_del {A B : List (Int × Nat)} {id : Int} {k : Nat} (h : id ∉ (A ++ B).map (·.1)) : fu (adr (A ++ (id, k) :: B)) id none = adr (A ++ B) := by
  funext j
  by_cases e : j = id
  · subst e; rw [fu_same, adr_none h]
  · rw [fu_ne _ _ e, adr_off e]
theorem plug_app : ∀ (A B : Cx) (tr : T), plug (A ++ B) tr = plug B (plug A tr)
  | [], _, _ => rfl
  | f :: A, B, tr => plug_app A B (f.jn tr)
/-- A node that lies in a tree, and what is above it. -/
theorem kv_focus : ∀ (tr : T) {id : Int} {k : Nat}, (id, k) ∈ tr.kv → ∃ C y s l r, plug C (.n k y s l r) = tr ∧ y.i = id
  | .e, _, _, h => by cases h
  | .n q i s l r, id, k, h => by
    unfold T.kv at h
    rcases List.mem_append.1 h with h | h
    · obtain ⟨C, y, s', l', r', e, e2⟩ := kv_focus l h
      refine ⟨C ++ [⟨q, i, s, false, r⟩], y, s', l', r', ?_, e2⟩
      rw [plug_app, e]
      rfl
    · rcases List.mem_cons.1 h with h | h
      · cases h; exact ⟨[], i, s, l, r, rfl, rfl⟩
      · obtain ⟨C, y, s', l', r', e, e2⟩ := kv_focus r h
        refine ⟨C ++ [⟨q, i, s, true, l⟩], y, s', l', r', ?_, e2⟩
        rw [plug_app, e]
        rfl
theorem plug_okC : ∀ (C : Cx) {tr : T}, (plug C tr).ok → okC C ∧ tr.ok
  | [], _, h => ⟨fun _ m => (by cases m), h⟩
  | f :: C, tr, h => by
    obtain ⟨h1, h2⟩ := plug_okC C (tr := f.jn tr) h
    unfold Fr.jn at h2
    cases hd : f.d with
    | true =>
      rw [hd] at h2
      exact ⟨fun g m => by rcases List.mem_cons.1 m with rfl | m; exact h2.2.1; exact h1 g m, h2.2.2⟩
    | false =>
      rw [hd] at h2
      exact ⟨fun g m => by rcases List.mem_cons.1 m with rfl | m; exact h2.2.2; exact h1 g m, h2.2.1⟩
theorem plug_sz : ∀ (C : Cx) (tr : T), (plug C tr).sz = csz C + tr.sz
  | [], tr => by show tr.sz = 0 + tr.sz; omega
  | f :: C, tr => by
    show (plug C (f.jn tr)).sz = 1 + f.o.sz + csz C + tr.sz
    rw [plug_sz C]
    unfold Fr.jn
    cases f.d <;> simp [T.sz] <;> omega
theorem plug_ht : ∀ (C : Cx) (tr : T), C.length + tr.ht ≤ (plug C tr).ht
  | [], tr => by show 0 + tr.ht ≤ tr.ht; omega
  | f :: C, tr => by
    have := plug_ht C (f.jn tr)
    show (f :: C).length + tr.ht ≤ (plug C (f.jn tr)).ht
    have h2 : 1 + tr.ht ≤ (f.jn tr).ht := by
      unfold Fr.jn
      cases f.d
      · show 1 + tr.ht ≤ 1 + max tr.ht f.o.ht; omega
      · show 1 + tr.ht ≤ 1 + max f.o.ht tr.ht; omega
    simp only [List.length_cons]
    omega
theorem T.ht_le : ∀ tr : T, (tr.ht : Int) ≤ tr.sz
  | .e => Int.le_refl 0
  | .n _ _ _ l r => by
    have := T.ht_le l; have := T.ht_le r
    have := T.sz_nn l; have := T.sz_nn r
    unfold T.ht T.sz
    omega
end G
end Go.Proofs.Ythfemlhmnjfjiaa
/-
  The tree with its map; a row put in, a row taken out.
-/
namespace Go.Proofs.Ythfemlhmnjfjiaa
open Go.RowKit
namespace G
/-- The tree with its map: all that is kept. -/
structure FT (D : Nat → Prop) (w : World) (t : Nat) (mb : Hd) (tr : T) (lk : Int) : Prop where
  ts : TS D w t mb [] tr lk
  om : OM w mb.m (adr tr.kv) tr.kv.length
  ok : tr.ok
  nd : (tr.ids.map (·.i)).Nodup
  rg : ∀ i ∈ tr.ids.map (·.i), 1 ≤ i ∧ i ≤ 9007199254740992
  le : tr.sz ≤ 1024
  l0 : 0 ≤ lk
  hm : ob mb.h ≠ some mb.m
theorem FT.mo {D : Nat → Prop} {w w' : World} {t : Nat} {mb : Hd} {tr : T} {lk : Int} (h : FT D w t mb tr lk) (m : Mo w w') : FT D w' t mb tr lk := ⟨h.ts.mo m, h.om.mo m, h.ok, h.nd, h.rg, h.le, h.l0, h.hm⟩
/-- A row is put in at a place. -/
def Ins (tr : T) (at0 : Int) (y : Py) (kn : Nat) (tr' : T) : Prop := ∃ C, plug C .e = tr ∧ ix C = at0 ∧ tr' = rebuild C (.n kn y 1 .e .e)
/-- A row is taken out. -/
def Del (tr : T) (i : Py) (at0 : Int) (tr' : T) : Prop := ∃ C k s l r, plug C (.n k i s l r) = tr ∧ at0 = l.sz + ix C ∧
  ((l = .e ∧ tr' = rebuild C r) ∨ (r = .e ∧ tr' = rebuild C l) ∨ l ≠ .e ∧ ∃ Ls kn i2 s2 b, plug Ls (.n kn i2 s2 .e b) = r ∧ (∀ g ∈ Ls, g.d = false) ∧ tr' = rebuild (Ls ++ (⟨k, i2, s, true, l⟩ : Fr) :: C) b)
theorem kv_nd {l : List (Int × Nat)} {A B : List (Int × Nat)} {id : Int} {k : Nat} (h : l = A ++ (id, k) :: B) (hn : (l.map (·.1)).Nodup) : id ∉ A.map (·.1) ∧ id ∉ (A ++ B).map (·.1) ∧ ((A ++ B).map (·.1)).Nodup := by
  subst h
  simp only [List.map_append, List.map_cons] at hn ⊢
  have h2 := List.perm_middle.nodup_iff.1 hn
  have h3 := List.nodup_cons.1 h2
  exact ⟨fun m => h3.1 (by simp [m]), by simpa using h3.1, h3.2⟩
theorem nd_ins {A B : List Int} {id : Int} (h : (A ++ B).Nodup) (hi : id ∉ A ++ B) : (A ++ id :: B).Nodup := List.perm_middle.nodup_iff.2 (List.nodup_cons.2 ⟨hi, h⟩)
section
variable {D : Nat → Prop} {w : World} {t : Nat} {mb : Hd} {lk : Int}
theorem put_f {tr : T} {at0 yi : Int} {yp : Option Addr} {yn yc : Nat} {yvs : List V10} (h : FT D w t mb tr lk) (hid : yi ∉ tr.ids.map (·.i)) (hr1 : 1 ≤ yi) (hr2 : yi ≤ 9007199254740992) (hsz : tr.sz < 1024) (h0 : 0 ≤ at0) (h1 : at0 ≤ tr.sz) (hlk : lk ≤ 3000000000000000000)
    (hyw : Rw w 10 (.slice yp yn yc) (yvs.map V10.cells) ∧ yvs.length = mb.sc.length ∧ ∀ x ∈ yvs, x.n.ok) (hyD : ∀ b, ob (.slice yp yn yc) = some b → ¬ D b ∧ b ≠ mb.m ∧ ob mb.h ≠ some b) :
    Calls Try.prog 31 #[pt t 0, .int .i64 at0, .agg #[.int .i64 yi, .slice yp yn yc]] w fun e w' => e = .returned (.tuple #[]) ∧ ∃ kn tr' lk' D', Ins tr at0 ⟨yi, .slice yp yn yc, yvs⟩ kn tr' ∧ FT D' w' t mb tr' lk' ∧ w.heap.size ≤ kn ∧ lk < lk' ∧ lk' ≤ lk + 10 * tr.ht + 8 ∧ Mk (fun j => D j ∨ j = mb.m ∨ ob (.slice yp yn yc) = some j) w w' ∧ ∀ j, D' j → D j ∨ w.heap.size ≤ j ∨ ob (.slice yp yn yc) = some j := by
  have hh := tr.ht_le
  have hl := tr.kv_len
  have hl0 := h.l0
  have hno : adr tr.kv yi = none := adr_none (by rw [T.kv_ids]; exact hid)
  obtain ⟨R, root, hRS⟩ := h.ts
  refine (put_n hRS h.om (by rw [hno]; rfl) (by omega) (WalkArith.wf_i64 ⟨by omega, by omega⟩) h.ok h0 h1 (by omega) ⟨hl0, by omega⟩ (by omega) hyw (Fre.of hRS.hs hyD) (fun b hb => (hyD b hb).1) h.hm).mono fun e w' hq => ?_
  obtain ⟨he, C, kn, lk', D', hp, hix, hoc, hkn, hk1, hk2, hk3, hT, hM, hK, hD⟩ := hq
  refine ⟨he, kn, rebuild C (.n kn ⟨yi, .slice yp yn yc, yvs⟩ 1 .e .e), lk', D', ⟨C, hp, hix, rfl⟩, ?_, hkn, by omega, by omega, hK, hD⟩
  have e1 : tr.kv = preC C ++ posC C := by rw [← hp, plug_kv]; simp [T.kv]
  have e2 : (rebuild C (.n kn ⟨yi, .slice yp yn yc, yvs⟩ 1 .e .e)).kv = preC C ++ (yi, kn) :: posC C := by rw [rebuild_kv]; simp [T.kv]
  have ei : tr.ids.map (·.i) = (preC C).map (·.1) ++ (posC C).map (·.1) := by rw [← T.kv_ids, e1, List.map_append]
  have ei2 : (rebuild C (.n kn ⟨yi, .slice yp yn yc, yvs⟩ 1 .e .e)).ids.map (·.i) = (preC C).map (·.1) ++ yi :: (posC C).map (·.1) := by rw [← T.kv_ids, e2, List.map_append]; rfl
  refine ⟨hT, ?_, rebuild_ok C _ hoc ⟨by simp [T.sz], trivial, trivial⟩, ?_, ?_, ?_, by omega, h.hm⟩
  · rw [e2, ← fu_ins (by intro m; exact hid (by rw [ei]; simp only [List.mem_append]; exact Or.inl m)), ← e1]
    have : (preC C ++ (yi, kn) :: posC C).length = tr.kv.length + 1 := by rw [e1]; simp; omega
    rw [this]
    exact hM
  · rw [ei2]; rw [ei] at hid; exact nd_ins (by rw [← ei]; exact h.nd) hid
  · intro j hj
    rw [ei2] at hj
    have hg := h.rg j
    rw [ei] at hg
    simp only [List.mem_append, List.mem_cons] at hj hg
    rcases hj with hj | rfl | hj
    · exact hg (Or.inl hj)
    · exact ⟨hr1, hr2⟩
    · exact hg (Or.inr hj)
  · have h3 := (rebuild C (.n kn ⟨yi, .slice yp yn yc, yvs⟩ 1 .e .e)).kv_len
    rw [e2] at h3
    rw [e1] at hl
    simp at h3 hl
    omega
end
theorem fu_set {A B : List (Int × Nat)} {id : Int} {k0 k : Nat} (h : id ∉ A.map (·.1)) : fu (adr (A ++ (id, k0) :: B)) id (some k) = adr (A ++ (id, k) :: B) := by
  funext j
  by_cases e : j = id
  · subst e; rw [fu_same, adr_mid h]
  · rw [fu_ne _ _ e, adr_off e, adr_off e]
theorem pre_left {B : Cx} : ∀ {Ls : Cx}, (∀ g ∈ Ls, g.d = false) → preC (Ls ++ B) = preC B
  | [], _ => rfl
  | f :: Ls, h => by
    show preC (Ls ++ B) ++ (if f.d then f.o.kv ++ [(f.i.i, f.k)] else []) = preC B
    rw [h f (by simp), pre_left (fun g hg => h g (by simp [hg]))]
    simp
theorem pos_app (B : Cx) : ∀ Ls : Cx, posC (Ls ++ B) = posC Ls ++ posC B
  | [] => rfl
  | f :: Ls => by
    show (if f.d then [] else (f.i.i, f.k) :: f.o.kv) ++ posC (Ls ++ B) = ((if f.d then [] else (f.i.i, f.k) :: f.o.kv) ++ posC Ls) ++ posC B
    rw [pos_app B Ls, List.append_assoc]
section
variable {D : Nat → Prop} {w : World} {t : Nat} {mb : Hd} {lk : Int}
/-- All but the shape, once the ids are known. -/
theorem FT.of {D' : Nat → Prop} {w' : World} {tr tr' : T} {lk' : Int} {A B : List (Int × Nat)} {i : Int} {k : Nat} (h : FT D w t mb tr lk) (e : tr.kv = A ++ (i, k) :: B) (e' : tr'.kv.map (·.1) = (A ++ B).map (·.1)) (hT : TS D' w' t mb [] tr' lk') (hM : OM w' mb.m (adr tr'.kv) (tr.kv.length - 1)) (ho : tr'.ok) (hl : lk ≤ lk') : FT D' w' t mb tr' lk' := by
  have hn := kv_nd e (by rw [T.kv_ids]; exact h.nd)
  have hlen : tr'.kv.length = tr.kv.length - 1 := by
    have := congrArg List.length e'
    rw [e]
    simp at this ⊢
    omega
  have h0 := h.l0
  refine ⟨hT, by rw [hlen]; exact hM, ho, by rw [← T.kv_ids, e']; exact hn.2.2, fun j hj => h.rg j ?_, ?_, by omega, h.hm⟩
  · rw [← T.kv_ids, e'] at hj
    rw [← T.kv_ids, e]
    simp only [List.map_append, List.map_cons, List.mem_append, List.mem_cons] at hj ⊢
    rcases hj with hj | hj
    · exact Or.inl hj
    · exact Or.inr (Or.inr hj)
  · have h1 := tr.kv_len
    have h2 := tr'.kv_len
    have h3 := h.le
    rw [hlen] at h2
    omega
theorem take_f {C : Cx} {k : Nat} {i : Py} {s : Int} {l r : T} (h : FT D w t mb (plug C (.n k i s l r)) lk) (hlk : lk ≤ 3000000000000000000) :
    Calls Try.prog 38 #[pt t 0, pt k 0] w fun e w' => e = .returned (.tuple #[]) ∧ ∃ tr' lk' D', Del (plug C (.n k i s l r)) i (l.sz + ix C) tr' ∧ FT D' w' t mb tr' lk' ∧ lk ≤ lk' ∧ lk' ≤ lk + 3 + 9 * (plug C (.n k i s l r)).ht ∧ Mk (fun j => D j ∨ j = mb.m) w w' ∧ (∀ j, D' j → D j) ∧ (∀ b, ob i.v = some b → ¬ D' b) ∧ Rw w' 10 i.v (i.vs.map V10.cells) := by
  have hkv : (plug C (.n k i s l r)).kv = (preC C ++ l.kv) ++ (i.i, k) :: (r.kv ++ posC C) := by rw [plug_kv]; simp [T.kv]
  have hn := kv_nd hkv (by rw [T.kv_ids]; exact h.nd)
  obtain ⟨oc, ot⟩ := plug_okC C h.ok
  have hps := plug_sz C (.n k i s l r)
  have hle := h.le
  have hph := plug_ht C (.n k i s l r)
  have hhl := (plug C (.n k i s l r)).ht_le
  have hkl := (plug C (.n k i s l r)).kv_len
  have h0 := h.l0
  have hcn := csz_nn C
  have hi : (adr (plug C (.n k i s l r)).kv i.i).isSome = true := by rw [hkv, adr_mid hn.1]; rfl
  have hri := h.rg i.i (by rw [← T.kv_ids, hkv]; simp)
  have hwi : (Lit.int .i64 i.i).wf = true := WalkArith.wf_i64 ⟨by omega, by omega⟩
  obtain ⟨R, root, hRS⟩ := h.ts
  have hT := RS.at C hRS
  have hb : csz C + (T.n k i s l r).sz ≤ 8000 := by omega
  have hfd : fu (adr (plug C (.n k i s l r)).kv) i.i none = adr ((preC C ++ l.kv) ++ (r.kv ++ posC C)) := by rw [hkv]; exact fu_del hn.2.1
  generalize hH : (plug C (.n k i s l r)).ht = H at *
  cases l with
  | e =>
    refine (take_B hT h.om hwi hi ot oc hb ⟨h0, by omega⟩ h.hm).mono fun e w' hq => ?_
    obtain ⟨he, lk', D', hk1, hk2, hT2, hM2, hK, hD1, hD2, hRv⟩ := hq
    rw [hfd] at hM2
    have e2 : (rebuild C r).kv = preC C ++ T.e.kv ++ (r.kv ++ posC C) := by rw [rebuild_kv]; simp [T.kv]
    have hp1 : 1 ≤ (T.n k i s .e r).ht := by unfold T.ht; omega
    exact ⟨he, rebuild C r, lk', D', ⟨C, k, s, .e, r, rfl, rfl, Or.inl ⟨rfl, rfl⟩⟩, h.of hkv (by rw [e2]) hT2 (by rw [e2]; exact hM2) (rebuild_ok C r oc ot.2.2) hk1, hk1, by omega, hK, hD1, hD2, hRv⟩
  | n lk0 li ls la lb =>
    cases r with
    | e =>
      refine (take_C hT h.om hwi hi ot oc hb ⟨h0, by omega⟩ h.hm).mono fun e w' hq => ?_
      obtain ⟨he, lk', D', hk1, hk2, hT2, hM2, hK, hD1, hD2, hRv⟩ := hq
      rw [hfd] at hM2
      have e2 : (rebuild C (.n lk0 li ls la lb)).kv = preC C ++ (T.n lk0 li ls la lb).kv ++ (T.e.kv ++ posC C) := by rw [rebuild_kv]; simp [T.kv]
      have hp1 : 1 ≤ (T.n k i s (.n lk0 li ls la lb) .e).ht := by unfold T.ht; omega
      exact ⟨he, rebuild C (.n lk0 li ls la lb), lk', D', ⟨C, k, s, .n lk0 li ls la lb, .e, rfl, rfl, Or.inr (Or.inl ⟨rfl, rfl⟩)⟩, h.of hkv (by rw [e2]) hT2 (by rw [e2]; exact hM2) (rebuild_ok C _ oc ot.2.1) hk1, hk1, by omega, hK, hD1, hD2, hRv⟩
    | n rk ri rs ra rb =>
      have hrh : (T.n rk ri rs ra rb).ht + 1 ≤ (T.n k i s (.n lk0 li ls la lb) (.n rk ri rs ra rb)).ht := by
        show _ ≤ 1 + max (T.n lk0 li ls la lb).ht (T.n rk ri rs ra rb).ht
        omega
      refine (take_A hT h.om (by omega) hwi hi ot oc hb ⟨h0, by omega⟩ (fun j hj => ?_) h.hm).mono fun e w' hq => ?_
      · have := h.rg j.i (List.mem_map.2 ⟨j, plug_mem C (by unfold T.ids; simp only [List.mem_append, List.mem_cons]; exact Or.inr (Or.inr hj)), rfl⟩)
        exact WalkArith.wf_i64 ⟨by omega, by omega⟩
      · obtain ⟨he, Ls, kn, i2, s2, b, lk', D', hpl, okL, hLd, hok, hk1, hk2, hlt, hT2, hM2, hK, hD1, hD2, hRv⟩ := hq
        have hpre : preC Ls = [] := by have := pre_left (B := []) hLd; rw [List.append_nil] at this; exact this
        have er : (T.n rk ri rs ra rb).kv = (i2.i, kn) :: (b.kv ++ posC Ls) := by rw [← hpl, plug_kv, hpre]; simp [T.kv]
        have e2 : (rebuild (Ls ++ (⟨k, i2, s, true, .n lk0 li ls la lb⟩ : Fr) :: C) b).kv = (preC C ++ (T.n lk0 li ls la lb).kv) ++ (i2.i, k) :: (b.kv ++ (posC Ls ++ posC C)) := by
          rw [rebuild_kv, pre_left hLd, pos_app]
          show (preC C ++ ((T.n lk0 li ls la lb).kv ++ [(i2.i, k)])) ++ b.kv ++ (posC Ls ++ ([] ++ posC C)) = _
          simp
        rw [hfd, er] at hM2
        have hn2 := hn.2.2
        rw [er] at hn2
        have hi2 : i2.i ∉ (preC C ++ (T.n lk0 li ls la lb).kv).map (·.1) := (kv_nd (l := (preC C ++ (T.n lk0 li ls la lb).kv) ++ (i2.i, kn) :: (b.kv ++ posC Ls ++ posC C)) rfl (by simpa using hn2)).1
        have hM3 : OM w' mb.m (adr (rebuild (Ls ++ (⟨k, i2, s, true, .n lk0 li ls la lb⟩ : Fr) :: C) b).kv) ((plug C (.n k i s (.n lk0 li ls la lb) (.n rk ri rs ra rb))).kv.length - 1) := by
          rw [List.cons_append, adr_mid hi2] at hM2
          rw [fu_set hi2] at hM2
          rw [e2]
          simpa using hM2
        refine ⟨he, _, lk', D', ⟨C, k, s, .n lk0 li ls la lb, .n rk ri rs ra rb, rfl, rfl, Or.inr (Or.inr ⟨by simp, Ls, kn, i2, s2, b, hpl, hLd, rfl⟩)⟩, h.of hkv (by rw [e2, er]; simp) hT2 hM3 (rebuild_ok _ b (okC_app okL ot.2.1 oc) hok.2.2) hk1, hk1, by omega, hK, hD1, hD2, hRv⟩
end
end G
end Go.Proofs.Ythfemlhmnjfjiaa
/-
  What is put in and taken out, as lists; weights: what is mended is balanced; how deep a balanced tree is.
-/
namespace Go.Proofs.Ythfemlhmnjfjiaa
open Go.RowKit
namespace G
def preR : Cx → List Py
  | [] => []
  | f :: C => preR C ++ (if f.d then f.o.ids ++ [f.i] else [])
def posR : Cx → List Py
  | [] => []
  | f :: C => (if f.d then [] else f.i :: f.o.ids) ++ posR C
theorem plug_rows : ∀ (C : Cx) (tr : T), (plug C tr).ids = preR C ++ tr.ids ++ posR C
  | [], tr => by show tr.ids = [] ++ tr.ids ++ []; simp
  | f :: C, tr => by
    show (plug C (f.jn tr)).ids = _
    rw [plug_rows C]
    unfold Fr.jn
    show _ = (preR C ++ (if f.d then f.o.ids ++ [f.i] else [])) ++ tr.ids ++ ((if f.d then [] else f.i :: f.o.ids) ++ posR C)
    cases f.d <;> simp [T.ids]
theorem preR_len : ∀ C : Cx, ((preR C).length : Int) = ix C
  | [] => rfl
  | f :: C => by
    have := preR_len C
    have h2 := T.sz_ids f.o
    show ((preR C ++ (if f.d then f.o.ids ++ [f.i] else [])).length : Int) = (if f.d then f.o.sz + 1 else 0) + ix C
    cases f.d <;> simp <;> omega
theorem preR_left {B : Cx} : ∀ {Ls : Cx}, (∀ g ∈ Ls, g.d = false) → preR (Ls ++ B) = preR B
  | [], _ => rfl
  | f :: Ls, h => by
    show preR (Ls ++ B) ++ (if f.d then f.o.ids ++ [f.i] else []) = preR B
    rw [h f (by simp), preR_left (fun g hg => h g (by simp [hg]))]
    simp
theorem posR_app (B : Cx) : ∀ Ls : Cx, posR (Ls ++ B) = posR Ls ++ posR B
  | [] => rfl
  | f :: Ls => by
    show (if f.d then [] else f.i :: f.o.ids) ++ posR (Ls ++ B) = ((if f.d then [] else f.i :: f.o.ids) ++ posR Ls) ++ posR B
    rw [posR_app B Ls, List.append_assoc]
theorem Ins.ids {tr tr' : T} {at0 : Int} {y : Py} {kn : Nat} (h : Ins tr at0 y kn tr') : ∃ A B, tr.ids = A ++ B ∧ (A.length : Int) = at0 ∧ tr'.ids = A ++ y :: B := by
  obtain ⟨C, hp, hix, rfl⟩ := h
  refine ⟨preR C, posR C, ?_, ?_, ?_⟩
  · rw [← hp, plug_rows]; simp [T.ids]
  · rw [preR_len, hix]
  · rw [rebuild_ids, plug_rows]; simp [T.ids]
theorem Del.ids {tr tr' : T} {i : Py} {p : Int} (h : Del tr i p tr') : ∃ A B, tr.ids = A ++ i :: B ∧ (A.length : Int) = p ∧ tr'.ids = A ++ B := by
  obtain ⟨C, k, s, l, r, hp, rfl, h⟩ := h
  have h1 := preR_len C
  have h2 := T.sz_ids l
  refine ⟨preR C ++ l.ids, r.ids ++ posR C, ?_, by rw [List.length_append]; omega, ?_⟩
  · rw [← hp, plug_rows]; simp [T.ids]
  · rcases h with ⟨rfl, rfl⟩ | ⟨rfl, rfl⟩ | ⟨_, Ls, kn, i2, s2, b, hpl, hLd, rfl⟩
    · rw [rebuild_ids, plug_rows]; simp [T.ids]
    · rw [rebuild_ids, plug_rows]; simp [T.ids]
    · have hpre : preR Ls = [] := by have := preR_left (B := []) hLd; rw [List.append_nil] at this; exact this
      have er : r.ids = i2 :: (b.ids ++ posR Ls) := by rw [← hpl, plug_rows, hpre]; simp [T.ids]
      rw [rebuild_ids, plug_rows, preR_left hLd, posR_app, er]
      show (preR C ++ (l.ids ++ [i2])) ++ b.ids ++ (posR Ls ++ ([] ++ posR C)) = _
      simp
/-- No side weighs more than three times the other. -/
def T.bw : T → Prop
  | .e => True
  | .n _ _ _ l r => l.sz + 1 ≤ 3 * (r.sz + 1) ∧ r.sz + 1 ≤ 3 * (l.sz + 1) ∧ l.bw ∧ r.bw
theorem bal_bw {k : Nat} {i : Py} {l r : T} (hl : l.bw) (hr : r.bw) (h1 : l.sz + 1 ≤ 3 * (r.sz + 1) + 3) (h2 : r.sz + 1 ≤ 3 * (l.sz + 1) + 3) : (bal k i l r).bw := by
  unfold bal
  have hl0 := T.sz_nn l
  have hr0 := T.sz_nn r
  split
  · rename_i hh
    unfold lightL
    cases l with
    | e => simp only [T.sz] at hh; omega
    | n kk ii ss a b =>
      have ha0 := T.sz_nn a
      have hb0 := T.sz_nn b
      obtain ⟨q1, q2, q3, q4⟩ := hl
      cases hd : decide (2 * (a.sz + 1) ≤ b.sz + 1) with
      | false =>
        have hd' := of_decide_eq_false hd
        simp only [hd]
        simp only [T.bw, T.sz] at *
        refine ⟨by omega, by omega, q3, by omega, by omega, q4, hr⟩
      | true =>
        have hd' := of_decide_eq_true hd
        cases b with
        | e => simp only [T.sz] at hd'; omega
        | n j jj js c z =>
          have hc0 := T.sz_nn c
          have hz0 := T.sz_nn z
          obtain ⟨p1, p2, p3, p4⟩ := q4
          simp only [hd]
          simp only [T.bw, T.sz] at *
          refine ⟨by omega, by omega, ⟨by omega, by omega, q3, p3⟩, by omega, by omega, p4, hr⟩
  · rename_i hh
    split
    · rename_i hh2
      unfold lightR
      cases r with
      | e => simp only [T.sz] at hh2; omega
      | n kk ii ss b a =>
        have ha0 := T.sz_nn a
        have hb0 := T.sz_nn b
        obtain ⟨q1, q2, q4, q3⟩ := hr
        cases hd : decide (2 * (a.sz + 1) ≤ b.sz + 1) with
        | false =>
          have hd' := of_decide_eq_false hd
          simp only [hd]
          simp only [T.bw, T.sz] at *
          refine ⟨by omega, by omega, ⟨by omega, by omega, hl, q4⟩, q3⟩
        | true =>
          have hd' := of_decide_eq_true hd
          cases b with
          | e => simp only [T.sz] at hd'; omega
          | n j jj js c z =>
            have hc0 := T.sz_nn c
            have hz0 := T.sz_nn z
            obtain ⟨p1, p2, p3, p4⟩ := q4
            simp only [hd]
            simp only [T.bw, T.sz] at *
            refine ⟨by omega, by omega, ⟨by omega, by omega, hl, p3⟩, by omega, by omega, p4, q3⟩
    · exact ⟨by omega, by omega, hl, hr⟩
theorem jn_bw {f : Fr} {t : T} (h : (f.jn t).bw) : f.o.bw ∧ t.bw ∧ f.o.sz + 1 ≤ 3 * (t.sz + 1) ∧ t.sz + 1 ≤ 3 * (f.o.sz + 1) := by
  unfold Fr.jn at h
  cases hd : f.d with
  | true => rw [hd] at h; exact ⟨h.2.2.1, h.2.2.2, h.1, h.2.1⟩
  | false => rw [hd] at h; exact ⟨h.2.2.2, h.2.2.1, h.2.1, h.1⟩
theorem jn_sz (f : Fr) (t : T) : (f.jn t).sz = 1 + f.o.sz + t.sz := by
  unfold Fr.jn
  cases f.d <;> simp [T.sz] <;> omega
theorem plug_bw : ∀ {C : Cx} {t : T}, (plug C t).bw → t.bw
  | [], _, h => h
  | _ :: C, _, h => (jn_bw (plug_bw (C := C) h)).2.1
theorem rebuild_bw : ∀ (C : Cx) {t0 t1 : T}, (plug C t0).bw → t1.bw → t1.sz ≤ t0.sz + 1 → t0.sz ≤ t1.sz + 1 → (rebuild C t1).bw
  | [], _, _, _, h, _, _ => h
  | f :: C, t0, t1, h0, h, a, b => by
    obtain ⟨q1, _, q3, q4⟩ := jn_bw (plug_bw (C := C) h0)
    have hb : (balF f t1).bw := by
      unfold balF
      split
      · exact bal_bw q1 h (by omega) (by omega)
      · exact bal_bw h q1 (by omega) (by omega)
    exact rebuild_bw C (t0 := f.jn t0) h0 hb (by rw [balF_sz, jn_sz]; omega) (by rw [balF_sz, jn_sz]; omega)
theorem plug_bw_like : ∀ (C : Cx) {t u : T}, t.sz = u.sz → (t.bw → u.bw) → (plug C t).bw → (plug C u).bw
  | [], _, _, _, h, k => h k
  | f :: C, t, u, hs, h, k => by
    refine plug_bw_like C (t := f.jn t) (u := f.jn u) (by rw [jn_sz, jn_sz, hs]) (fun q => ?_) k
    unfold Fr.jn at q ⊢
    cases hd : f.d with
    | true => rw [hd] at q; exact ⟨by rw [← hs]; exact q.1, by rw [← hs]; exact q.2.1, q.2.2.1, h q.2.2.2⟩
    | false => rw [hd] at q; exact ⟨by rw [← hs]; exact q.1, by rw [← hs]; exact q.2.1, h q.2.2.1, q.2.2.2⟩
theorem Ins.bw {tr tr' : T} {at0 : Int} {id : Py} {kn : Nat} (h : Ins tr at0 id kn tr') (hb : tr.bw) : tr'.bw := by
  obtain ⟨C, rfl, _, rfl⟩ := h
  exact rebuild_bw C hb ⟨by simp [T.sz], by simp [T.sz], trivial, trivial⟩ (by simp [T.sz]) (by simp [T.sz])
theorem Del.bw {tr tr' : T} {i : Py} {p : Int} (h : Del tr i p tr') (hb : tr.bw) : tr'.bw := by
  obtain ⟨C, k, s, l, r, rfl, _, h⟩ := h
  have hn := plug_bw (C := C) hb
  rcases h with ⟨rfl, rfl⟩ | ⟨rfl, rfl⟩ | ⟨_, Ls, kn, i2, s2, b, hpl, _, rfl⟩
  · exact rebuild_bw C hb hn.2.2.2 (by simp only [T.sz]; omega) (by simp only [T.sz]; omega)
  · exact rebuild_bw C hb hn.2.2.1 (by simp only [T.sz]; omega) (by simp only [T.sz]; omega)
  · have h2 : (plug (Ls ++ (⟨k, i2, s, true, l⟩ : Fr) :: C) (.n kn i2 s2 .e b)).bw := by
      rw [plug_app, hpl]
      exact plug_bw_like C (t := .n k i s l r) rfl (fun q => q) hb
    exact rebuild_bw _ h2 (plug_bw h2).2.2.2 (by simp only [T.sz]; omega) (by simp only [T.sz]; omega)
/-- The least weight of a balanced tree of a height. -/
def mw : Nat → Int
  | 0 => 1
  | h + 1 => mw h + (mw h + 2) / 3
theorem mw_pos : ∀ h, 1 ≤ mw h
  | 0 => by decide
  | h + 1 => by have := mw_pos h; unfold mw; omega
theorem mw_mono : ∀ {a b : Nat}, a ≤ b → mw a ≤ mw b
  | a, 0, h => by rw [show a = 0 by omega]; exact Int.le_refl _
  | a, b + 1, h => by
    by_cases e : a = b + 1
    · rw [e]; exact Int.le_refl _
    · have := mw_mono (a := a) (b := b) (by omega)
      have := mw_pos b
      show mw a ≤ mw b + (mw b + 2) / 3
      omega
theorem bw_mw : ∀ {t : T}, t.bw → mw t.ht ≤ t.sz + 1
  | .e, _ => by decide
  | .n _ _ _ l r, h => by
    have hl := bw_mw h.2.2.1
    have hr := bw_mw h.2.2.2
    have h1 := h.1
    have h2 := h.2.1
    show mw (1 + max l.ht r.ht) ≤ 1 + l.sz + r.sz + 1
    by_cases hm : l.ht ≤ r.ht
    · rw [Nat.max_eq_right hm, Nat.add_comm]
      unfold mw
      omega
    · rw [Nat.max_eq_left (by omega), Nat.add_comm]
      unfold mw
      omega
/-- How many binary digits. -/
def bitc (n : Nat) : Nat := if h : n = 0 then 0 else 1 + bitc (n / 2)
termination_by n
decreasing_by omega
theorem bitc_0 : bitc 0 = 0 := by rw [bitc]; rfl
theorem bitc_s {n : Nat} (h : n ≠ 0) : bitc n = 1 + bitc (n / 2) := by rw [bitc, dif_neg h]
theorem bitc_mono : ∀ {b a : Nat}, a ≤ b → bitc a ≤ bitc b := by
  intro b
  induction b using Nat.strongRecOn with
  | ind b ih =>
    intro a h
    by_cases ha : a = 0
    · subst ha; rw [bitc_0]; omega
    · rw [bitc_s ha, bitc_s (show b ≠ 0 by omega)]
      have := ih (b / 2) (by omega) (a := a / 2) (by omega)
      omega
theorem ht_21 {t : T} (h : t.bw) (hs : t.sz ≤ 1024) : t.ht ≤ 21 := by
  have h1 := bw_mw h
  by_cases q : t.ht ≤ 21
  · exact q
  · have h2 := mw_mono (a := 22) (b := t.ht) (by omega)
    have h3 : mw 22 = 1163 := by decide
    omega
theorem bitc_pow : ∀ (e : Nat) {n : Nat}, 2 ^ e ≤ n → e + 1 ≤ bitc n
  | 0, n, h => by rw [bitc_s (show n ≠ 0 by omega)]; omega
  | e + 1, n, h => by
    rw [Nat.pow_succ] at h
    have hp : 1 ≤ 2 ^ e := Nat.one_le_two_pow
    rw [bitc_s (show n ≠ 0 by omega)]
    have := bitc_pow e (n := n / 2) (by omega)
    omega
/-- A balanced tree is no deeper than is promised. -/
theorem ht_bits {t : T} (h : t.bw) (hs : t.sz ≤ 1024) : t.ht ≤ 3 * bitc t.sz.toNat ∧ 11 * t.ht + 3 ≤ 24 * (1 + bitc t.sz.toNat) := by
  have h1 := bw_mw h
  have h21 := ht_21 h hs
  generalize t.ht = q at *
  generalize t.sz = z at *
  have hq : q = 0 ∨ q = 1 ∨ q = 2 ∨ q = 3 ∨ q = 4 ∨ q = 5 ∨ q = 6 ∨ q = 7 ∨ q = 8 ∨ q = 9 ∨ q = 10 ∨ q = 11 ∨ q = 12 ∨ q = 13 ∨ q = 14 ∨ q = 15 ∨ q = 16 ∨ q = 17 ∨ q = 18 ∨ q = 19 ∨ q = 20 ∨ q = 21 := by omega
  rcases hq with rfl | rfl | rfl | rfl | rfl | rfl | rfl | rfl | rfl | rfl | rfl | rfl | rfl | rfl | rfl | rfl | rfl | rfl | rfl | rfl | rfl | rfl
  · omega
  · have hm : mw 1 = 2 := by decide
    have := bitc_pow 0 (n := z.toNat) (by omega)
    omega
  · have hm : mw 2 = 3 := by decide
    have := bitc_pow 1 (n := z.toNat) (by omega)
    omega
  · have hm : mw 3 = 4 := by decide
    have := bitc_pow 1 (n := z.toNat) (by omega)
    omega
  · have hm : mw 4 = 6 := by decide
    have := bitc_pow 2 (n := z.toNat) (by omega)
    omega
  · have hm : mw 5 = 8 := by decide
    have := bitc_pow 2 (n := z.toNat) (by omega)
    omega
  · have hm : mw 6 = 11 := by decide
    have := bitc_pow 3 (n := z.toNat) (by omega)
    omega
  · have hm : mw 7 = 15 := by decide
    have := bitc_pow 3 (n := z.toNat) (by omega)
    omega
  · have hm : mw 8 = 20 := by decide
    have := bitc_pow 4 (n := z.toNat) (by omega)
    omega
  · have hm : mw 9 = 27 := by decide
    have := bitc_pow 4 (n := z.toNat) (by omega)
    omega
  · have hm : mw 10 = 36 := by decide
    have := bitc_pow 5 (n := z.toNat) (by omega)
    omega
  · have hm : mw 11 = 48 := by decide
    have := bitc_pow 5 (n := z.toNat) (by omega)
    omega
  · have hm : mw 12 = 64 := by decide
    have := bitc_pow 5 (n := z.toNat) (by omega)
    omega
  · have hm : mw 13 = 86 := by decide
    have := bitc_pow 6 (n := z.toNat) (by omega)
    omega
  · have hm : mw 14 = 115 := by decide
    have := bitc_pow 6 (n := z.toNat) (by omega)
    omega
  · have hm : mw 15 = 154 := by decide
    have := bitc_pow 7 (n := z.toNat) (by omega)
    omega
  · have hm : mw 16 = 206 := by decide
    have := bitc_pow 7 (n := z.toNat) (by omega)
    omega
  · have hm : mw 17 = 275 := by decide
    have := bitc_pow 8 (n := z.toNat) (by omega)
    omega
  · have hm : mw 18 = 367 := by decide
    have := bitc_pow 8 (n := z.toNat) (by omega)
    omega
  · have hm : mw 19 = 490 := by decide
    have := bitc_pow 8 (n := z.toNat) (by omega)
    omega
  · have hm : mw 20 = 654 := by decide
    have := bitc_pow 9 (n := z.toNat) (by omega)
    omega
  · have hm : mw 21 = 872 := by decide
    have := bitc_pow 9 (n := z.toNat) (by omega)
    omega
end G
end Go.Proofs.Ythfemlhmnjfjiaa
