/-
  copied, Clone.
-/
import Derived.Test.YtbmbldloeblbbaaCp
import Derived.Test.YtbmbldloeblbbaaUd
namespace Go.Proofs.Ytbmbldloeblbbaa
open Go.RowKit
section
variable {P : Program} {n : Nat} {l : List (Nat × Value)} {w : World} {Q : Exit → Act → World → Prop} {c : Code}
theorem w_rounds (N : Nat) (h : WC P c (Exit.then (Code.rounds P c Q N) Q) n l w) : WC P (Code.loop c) Q n l w := ⟨wp_loop_rounds (N + 1) h.out⟩
theorem xn_rounds {N : Nat} (h : WC P c (Exit.then (Code.rounds P c Q N) Q) n l w) : WX (Exit.then (Code.rounds P c Q (N + 1)) Q) .normal n l w := ⟨h.out⟩
end
open R (wo_callx)
theorem sz62 : (Try.prog.info? 62).map (·.size) = some 2 := by kernel_rfl
section
variable {P : Program} {o : Oper} {n : Nat} {l : List (Nat × Value)} {w : World} {Q : Exit → Act → World → Prop} {K : Act → World → Prop}
theorem wo_boxc (ty : TypeId) (x : Operand) (v : Value) (cs : Array Value) (ho : o.op = .box ty x) (hx : evl n l x = v) (h : ∀ w, (Instr.box ty v).run P w = .ok (pt w.heap.size 0) (w.alloc (.cells cs ty)))
    (hk : ∀ k w', w.heap.size = k → w'.heap.size = k + 1 → Mo w w' → At w' k cs.toList → Cb w' k → K (fr n (ext l o.dst (pt k 0))) w') : WO P o n l w K Q :=
  ⟨o_val (pt w.heap.size 0) (w' := w.alloc (.cells cs ty)) (by subst hx; simp [execOp, ho, h]) (hk _ _ rfl (by simp) ((Mo.refl _).alloc _ _) (At.new w cs ty) (Cb.new w cs ty))⟩
end
/-- What copying a tree does. -/
def Copd (mb : Nat) (K : List (Int × Nat)) (w : World) (u : Option Nat) (tr tr' : T) (w' : World) : Prop :=
  Sim tr tr' ∧ Lay w' u tr' ∧ (∀ k ∈ tr'.ad, w.heap.size ≤ k ∧ k < w'.heap.size) ∧ tr'.ad.Nodup ∧ OM w' mb (adr (K ++ pv tr')) (K ++ pv tr').length ∧ Mk (fun j => j = mb) w w'
theorem Copd.mo {mb : Nat} {K : List (Int × Nat)} {w a b : World} {u : Option Nat} {tr tr' : T} (h : Copd mb K w u tr tr' a) (m : Mo a b) : Copd mb K w u tr tr' b :=
  ⟨h.1, h.2.1.mo m, fun k q => ⟨(h.2.2.1 k q).1, Nat.lt_of_lt_of_le (h.2.2.1 k q).2 m.size⟩, h.2.2.2.1, h.2.2.2.2.1.mo m, h.2.2.2.2.2.trans m⟩
section
variable {w : World}
theorem copd_mo {mb : Nat} {K : List (Int × Nat)} {W wf w9 : World} {u : Option Nat} {tr tr' : T} (h : Copd mb K wf u tr tr' w9) (m : Mo W wf) : Copd mb K W u tr tr' w9 :=
  ⟨h.1, h.2.1, fun k q => ⟨Nat.le_trans m.size (h.2.2.1 k q).1, (h.2.2.1 k q).2⟩, h.2.2.2.1, h.2.2.2.2.1, (Mk.of _ m).tr h.2.2.2.2.2 (fun _ _ e => e)⟩
theorem lay_lt {w : World} : ∀ {tr : T} {u : Option Nat}, Lay w u tr → ∀ k ∈ tr.ad, k < w.heap.size
  | .e, _, _, _, h => by cases h
  | .n k i s l r, u, h, j, hj => by
    simp only [T.ad, List.mem_cons, List.mem_append] at hj
    rcases hj with rfl | hj | hj
    · exact h.1.lt
    · exact lay_lt h.2.2.1 j hj
    · exact lay_lt h.2.2.2 j hj
theorem Sim.len {a b : T} (h : Sim a b) : b.kv.length = a.kv.length := by
  have h1 := a.kv_len; have h2 := b.kv_len; have := h.sz; omega
theorem nd_i {K : List (Int × Nat)} {k : Nat} {i s : Int} {l r : T} (h : (K.map (·.1) ++ (T.n k i s l r).ids).Nodup) : i ∉ K.map (·.1) := fun q => by
  rw [List.nodup_append] at h
  exact h.2.2 i q i (by show i ∈ l.ids ++ i :: r.ids; simp) rfl
theorem nd_l {K : List (Int × Nat)} {k c : Nat} {i s : Int} {l r : T} (h : (K.map (·.1) ++ (T.n k i s l r).ids).Nodup) : ((K ++ [(i, c)]).map (·.1) ++ l.ids).Nodup := by
  have h0 : (K.map (·.1) ++ (l.ids ++ i :: r.ids)).Nodup := h
  rw [List.nodup_append] at h0
  obtain ⟨h1, h2, h3⟩ := h0
  rw [List.nodup_append] at h2
  obtain ⟨h4, h5, h6⟩ := h2
  rw [List.map_append, List.nodup_append]
  refine ⟨by rw [List.nodup_append]; exact ⟨h1, by simp, fun a ha b hb => by simp at hb; subst hb; exact h3 a ha b (by simp)⟩, h4, fun a ha b hb e => ?_⟩
  subst e
  rcases List.mem_append.1 ha with ha | ha
  · exact h3 a ha a (by simp [hb]) rfl
  · simp at ha; subst ha; exact h6 a hb a (by simp) rfl
theorem nd_r {K : List (Int × Nat)} {k c : Nat} {i s : Int} {l r x : T} (h : (K.map (·.1) ++ (T.n k i s l r).ids).Nodup) (hs : Sim l x) : (((K ++ [(i, c)]) ++ pv x).map (·.1) ++ r.ids).Nodup := by
  have hl := nd_l (c := c) h
  have h0 : (K.map (·.1) ++ (l.ids ++ i :: r.ids)).Nodup := h
  rw [List.nodup_append] at h0 hl
  obtain ⟨h1, h2, h3⟩ := h0
  rw [List.nodup_append] at h2
  obtain ⟨h4, h5, h6⟩ := h2
  rw [List.nodup_cons] at h5
  have hx : ∀ a, a ∈ (pv x).map (·.1) → a ∈ l.ids := fun a ha => by rw [← hs.ids]; exact (pv_ids x a).1 ha
  rw [List.map_append, List.nodup_append]
  refine ⟨?_, h5.2, fun a ha b hb e => ?_⟩
  · rw [List.nodup_append]
    exact ⟨hl.1, pv_nd (by rw [hs.ids]; exact h4), fun a ha b hb e => hl.2.2 a ha b (hx b hb) e⟩
  · subst e
    rcases List.mem_append.1 ha with ha | ha
    · rw [List.map_append] at ha
      rcases List.mem_append.1 ha with ha | ha
      · exact h3 a ha a (by simp [hb]) rfl
      · simp at ha; subst ha; exact h5.1 hb
    · exact h6 a (hx a ha) a (by simp [hb]) rfl
end
section
variable {D0 : Nat → Prop} {t0 mb0 t mb : Nat} {R0 : Mp} {root0 rt : Option Nat} {lk0 lkt : Int} {w : World}
theorem cop_e {above : Option Nat} {K : List (Int × Nat)} (hM : OM w mb (adr K) K.length) : Calls Try.prog 36 #[pt t 0, pp T.e.p, pp above] w fun e w' => ∃ tr', e = .returned (pp tr'.p) ∧ Copd mb K w above .e tr' w' := by
  refine w_enter 55 Try.func36 Try.ntmps36 rfl rfl ?_
  have M : Mo w w := Mo.refl _
  refine w_seq ?_
  refine w_reg ?_
  refine wl_mv (.const (.pointer none)) (pp none) (fun _ => rfl) rfl rfl ?_
  refine w_nil ?_
  refine xn_then ?_
  refine w_seq ?_
  refine w_seq ?_
  refine w_reg ?_
  refine wl_mv (.tmp 1) (pp none) (fun _ => rfl) rfl rfl ?_
  refine wl_bin (fun x y => do eqGuard .eql 56 (.tmp 10) (.const (.pointer none)) x y; binOp .eql 56 x y) (.tmp 10) (.const (.pointer none)) (pp none) (pp none) (.bool true) (fun _ => rfl) rfl rfl (eq56 none _ _ _) rfl ?_
  refine w_nil ?_
  refine xn_then ?_
  refine w_condT rfl ?_
  refine w_seq ?_
  refine w_reg ?_
  refine wl_mv (.const (.pointer none)) (pp none) (fun _ => rfl) rfl rfl ?_
  refine w_nil ?_
  refine xn_then ?_
  refine w_ret ?_
  refine xr_then ?_
  exact w_ret1 _ (pp none) rfl rfl ⟨.e, rfl, trivial, trivial, (fun k h => by cases h), List.nodup_nil, by simp only [pv, List.append_nil]; exact hM.mo M, Mk.of _ M⟩
theorem cop_n0 {u0 : Option Nat} {k : Nat} {i s : Int} {l r : T} {K : List (Int × Nat)} (hS0 : HS D0 w t0 mb0 R0 root0 lk0) (hDm : ¬ D0 mb) (hDl : ∀ j, D0 j → j < w.heap.size) (hmt : ¬ t = mb) (hR : Rep R0 u0 (T.n k i s l r)) (Qt : At w t [pp rt, .map (some mb), .int .i64 lkt]) (hM : OM w mb (adr K) K.length) (hnd : (K.map (·.1) ++ (T.n k i s l r).ids).Nodup) (hwf : ∀ j ∈ (T.n k i s l r).ids, (Lit.int .i64 j).wf = true) (hlen : K.length + (T.n k i s l r).kv.length ≤ 2000)
    (ihl : ∀ (u0 above : Option Nat) (K : List (Int × Nat)) (w : World), HS D0 w t0 mb0 R0 root0 lk0 → Rep R0 u0 l → At w t [pp rt, .map (some mb), .int .i64 lkt] → OM w mb (adr K) K.length → (K.map (·.1) ++ l.ids).Nodup → (∀ i ∈ l.ids, (Lit.int .i64 i).wf = true) → K.length + l.kv.length ≤ 2000 → Calls Try.prog 36 #[pt t 0, pp l.p, pp above] w fun e w' => ∃ tr', e = .returned (pp tr'.p) ∧ Copd mb K w above l tr' w') (ihr : ∀ (u0 above : Option Nat) (K : List (Int × Nat)) (w : World), HS D0 w t0 mb0 R0 root0 lk0 → Rep R0 u0 r → At w t [pp rt, .map (some mb), .int .i64 lkt] → OM w mb (adr K) K.length → (K.map (·.1) ++ r.ids).Nodup → (∀ i ∈ r.ids, (Lit.int .i64 i).wf = true) → K.length + r.kv.length ≤ 2000 → Calls Try.prog 36 #[pt t 0, pp r.p, pp above] w fun e w' => ∃ tr', e = .returned (pp tr'.p) ∧ Copd mb K w above r tr' w') : Calls Try.prog 36 #[pt t 0, pt k 0, pp none] w fun e w' => ∃ tr', e = .returned (pp tr'.p) ∧ Copd mb K w none (T.n k i s l r) tr' w' := by
  obtain ⟨hRk, hRl, hRr⟩ := hR
  have Qk := hS0.rc _ _ hRk
  have hmk : ¬ k = mb := fun e => hDm (e ▸ hS0.dk hRk)
  have hiK := nd_i hnd
  have hwi := hwf i (by show i ∈ l.ids ++ i :: r.ids; simp)
  have hwl : ∀ j ∈ l.ids, (Lit.int .i64 j).wf = true := fun j hj => hwf j (by show j ∈ l.ids ++ i :: r.ids; simp [hj])
  have hwr : ∀ j ∈ r.ids, (Lit.int .i64 j).wf = true := fun j hj => hwf j (by show j ∈ l.ids ++ i :: r.ids; simp [hj])
  simp only [T.kv, List.length_append, List.length_cons] at hlen
  refine w_enter 55 Try.func36 Try.ntmps36 rfl rfl ?_
  have M : Mk (fun j => j = mb) w w := Mk.refl _ _
  refine w_seq ?_
  refine w_reg ?_
  refine wl_mv (.const (.pointer none)) (pp none) (fun _ => rfl) rfl rfl ?_
  refine w_nil ?_
  refine xn_then ?_
  refine w_seq ?_
  refine w_seq ?_
  refine w_reg ?_
  refine wl_mv (.tmp 1) (pt k 0) (fun _ => rfl) rfl rfl ?_
  refine wl_bin (fun x y => do eqGuard .eql 56 (.tmp 10) (.const (.pointer none)) x y; binOp .eql 56 x y) (.tmp 10) (.const (.pointer none)) (pt k 0) (pp none) (.bool false) (fun _ => rfl) rfl rfl (eq56 (some k) _ _ _) rfl ?_
  refine w_nil ?_
  refine xn_then ?_
  refine w_condF rfl ?_
  refine w_skip ?_
  refine xn_then ?_
  refine w_seq ?_
  have hsm : Smos [vq (pp none), vq (pt k 0), vq (pt k 0), vq (pt k 0), vq (pt k 3), vq (.int .i64 (s)), vq (.agg #[pp none, .pointer none, .pointer none, .int .i64 (s)]), vq (pt k 0), vq (pt k 0), vq (pt k 4), vq (.int .i64 (i)), vq (.agg #[pp none, .pointer none, .pointer none, .int .i64 (s), .int .i64 (i)]), fun u w9 => ∃ c, u = pt c 0 ∧ w.heap.size ≤ c ∧ At w9 c [pp none, .pointer none, .pointer none, .int .i64 (s), .int .i64 (i)] ∧ Cb w9 c] := smos_cons (smo_vq _) (smos_cons (smo_vq _) (smos_cons (smo_vq _) (smos_cons (smo_vq _) (smos_cons (smo_vq _) (smos_cons (smo_vq _) (smos_cons (smo_vq _) (smos_cons (smo_vq _) (smos_cons (smo_vq _) (smos_cons (smo_vq _) (smos_cons (smo_vq _) (smos_cons (smo_vq _) (smos_cons (fun u a b ⟨c, h1, h2, h3, h4⟩ m => ⟨c, h1, h2, h3.mo m, h4.mo m⟩) (smos_nil)))))))))))))
  have hgr : ∀ a b : World, Mo w a → Mo a b → Mo w b := fun _ _ h m => h.trans m
  refine w_ogc 13 (fun w9 => Mo w w9) [vq (pp none), vq (pt k 0), vq (pt k 0), vq (pt k 0), vq (pt k 3), vq (.int .i64 (s)), vq (.agg #[pp none, .pointer none, .pointer none, .int .i64 (s)]), vq (pt k 0), vq (pt k 0), vq (pt k 4), vq (.int .i64 (i)), vq (.agg #[pp none, .pointer none, .pointer none, .int .i64 (s), .int .i64 (i)]), fun u w9 => ∃ c, u = pt c 0 ∧ w.heap.size ≤ c ∧ At w9 c [pp none, .pointer none, .pointer none, .int .i64 (s), .int .i64 (i)] ∧ Cb w9 c] [] (by kernel_rfl) (by kernel_rfl) (by kernel_rfl) (by kernel_rfl) rfl (by kernel_rfl) (by kernel_rfl) latec_nil ((Mo.refl _).drew) ?_ ?_
  · refine ea_cons ?_ (ea_cons ?_ (ea_cons ?_ (ea_cons ?_ (ea_cons ?_ (ea_cons ?_ (ea_cons ?_ (ea_cons ?_ (ea_cons ?_ (ea_cons ?_ (ea_cons ?_ (ea_cons ?_ (ea_cons ?_ (ea_nil)))))))))))))
    · exact oc_eq (pp none) rfl hgr hsm (fun f wf hG hd K hK => have Qt := Qt.mo hG; have Qk := Qk.mo hG; go_run rfl (wo_mv (.tmp 2) (pp none) (fun _ => rfl) rfl (hK _ (Mo.refl _))))
    · exact oc_eq (pt k 0) rfl hgr hsm (fun f wf hG hd K hK => have Qt := Qt.mo hG; have Qk := Qk.mo hG; go_run rfl (wo_mv (.tmp 1) (pt k 0) (fun _ => rfl) rfl (hK _ (Mo.refl _))))
    · exact oc_eq (pt k 0) rfl hgr hsm (fun f wf hG hd K hK => have Qt := Qt.mo hG; have Qk := Qk.mo hG; go_run rfl (wo_nc (.tmp 13) k 0 rfl (hd 1 rfl) (hK _ (Mo.refl _))))
    · exact oc_eq (pt k 0) rfl hgr hsm (fun f wf hG hd K hK => have Qt := Qt.mo hG; have Qk := Qk.mo hG; go_run rfl (wo_un (fun v => Instr.fieldAt 66 v 0) (.tmp 14) (pt k 0) (pt k 0) (fun _ => rfl) (hd 2 rfl) (by kernel_rfl) (hK _ (Mo.refl _))))
    · exact oc_eq (pt k 3) rfl hgr hsm (fun f wf hG hd K hK => have Qt := Qt.mo hG; have Qk := Qk.mo hG; go_run rfl (wo_un (fun v => Instr.fieldAt 64 v 2) (.tmp 15) (pt k 0) (pt k 3) (fun _ => rfl) (hd 3 rfl) (by kernel_rfl) (hK _ (Mo.refl _))))
    · exact oc_eq (.int .i64 (s)) rfl hgr hsm (fun f wf hG hd K hK => have Qt := Qt.mo hG; have Qk := Qk.mo hG; go_run rfl (wo_load 3 (.tmp 16) (pt k 3) (.int .i64 (s)) rfl (hd 4 rfl) (run_one Qk 3 3 rfl Try.underlying3 rfl) (hK _ (Mo.refl _))))
    · exact oc_eq (.agg #[pp none, .pointer none, .pointer none, .int .i64 (s)]) rfl hgr hsm (fun f wf hG hd K hK => have Qt := Qt.mo hG; have Qk := Qk.mo hG; go_run rfl (wo_build 64 [(0, (.tmp 12)), (2, (.tmp 17))] [(0, pp none), (2, .int .i64 (s))] (.agg #[pp none, .pointer none, .pointer none, .int .i64 (s)]) rfl (lp2 (hd 0 rfl) (hd 5 rfl)) (by kernel_rfl) (hK _ (Mo.refl _))))
    · exact oc_eq (pt k 0) rfl hgr hsm (fun f wf hG hd K hK => have Qt := Qt.mo hG; have Qk := Qk.mo hG; go_run rfl (wo_mv (.tmp 1) (pt k 0) (fun _ => rfl) rfl (hK _ (Mo.refl _))))
    · exact oc_eq (pt k 0) rfl hgr hsm (fun f wf hG hd K hK => have Qt := Qt.mo hG; have Qk := Qk.mo hG; go_run rfl (wo_nc (.tmp 19) k 0 rfl (hd 7 rfl) (hK _ (Mo.refl _))))
    · exact oc_eq (pt k 4) rfl hgr hsm (fun f wf hG hd K hK => have Qt := Qt.mo hG; have Qk := Qk.mo hG; go_run rfl (wo_un (fun v => Instr.fieldAt 66 v 1) (.tmp 20) (pt k 0) (pt k 4) (fun _ => rfl) (hd 8 rfl) (by kernel_rfl) (hK _ (Mo.refl _))))
    · exact oc_eq (.int .i64 (i)) rfl hgr hsm (fun f wf hG hd K hK => have Qt := Qt.mo hG; have Qk := Qk.mo hG; go_run rfl (wo_load 2 (.tmp 21) (pt k 4) (.int .i64 (i)) rfl (hd 9 rfl) (run_one Qk 2 4 rfl Try.underlying2 rfl) (hK _ (Mo.refl _))))
    · exact oc_eq (.agg #[pp none, .pointer none, .pointer none, .int .i64 (s), .int .i64 (i)]) rfl hgr hsm (fun f wf hG hd K hK => have Qt := Qt.mo hG; have Qk := Qk.mo hG; go_run rfl (wo_build 66 [(0, (.tmp 18)), (1, (.tmp 22))] [(0, .agg #[pp none, .pointer none, .pointer none, .int .i64 (s)]), (1, .int .i64 (i))] (.agg #[pp none, .pointer none, .pointer none, .int .i64 (s), .int .i64 (i)]) rfl (lp2 (hd 6 rfl) (hd 10 rfl)) (by kernel_rfl) (hK _ (Mo.refl _))))
    · exact ⟨fun f wf hG hd K hK => go_run rfl (wo_boxc 66 (.tmp 23) (.agg #[pp none, .pointer none, .pointer none, .int .i64 (s), .int .i64 (i)]) #[pp none, .pointer none, .pointer none, .int .i64 (s), .int .i64 (i)] rfl (hd 11 rfl) (fun _ => by kernel_rfl) (fun c w9 hc _ hq hA hB => hK _ w9 (hG.trans hq) ⟨c, rfl, by have := hG.size; omega, hA, hB⟩ (fun j u _ hr => hsm j u _ _ hr hq)))⟩
  intro f w1 hq hR
  obtain ⟨c, ec, hcW, Qc, hCb⟩ := hR 12 rfl
  have ne_t_c : t ≠ c := by have := Qt.lt; omega
  have ne_k_c : k ≠ c := by have := Qk.lt; omega
  have hmc : mb ≠ c := by have := hM.lt; omega
  have N_c : w.heap.size ≤ c := by have := M.size; omega
  replace Qt := Qt.mo hq
  replace Qk := Qk.mo hq
  replace hM := hM.mo hq
  replace hS0 := hS0.mo hq
  replace M := M.trans hq
  clear hq hR hsm hgr
  refine wl_mv (.tmp 24) (pt c 0) (fun _ => rfl) ec rfl ?_
  refine w_nil ?_
  refine xn_then ?_
  refine w_seq ?_
  refine w_any 9 [.inl (pt t 0), .inl (pt t 0), .inl (pt t 1), .inl (.map (some mb)), .inl (pt c 0), .inl (pt c 0), .inl (pt c 4), .inl (.int .i64 (i)), .inl (pt c 0)] [] (by kernel_rfl) (by kernel_rfl) (by kernel_rfl) (by kernel_rfl) rfl (by kernel_rfl) (by kernel_rfl) late_nil ?_ ?_ ?_
  · exact Ds.none rfl
  · refine ea_cons ?_ (ea_cons ?_ (ea_cons ?_ (ea_cons ?_ (ea_cons ?_ (ea_cons ?_ (ea_cons ?_ (ea_cons ?_ (ea_cons ?_ (ea_nil)))))))))
    · exact og_eq (pt t 0) rfl (fun f wf hq hd K hK => go_run rfl (wo_mv (.tmp 0) (pt t 0) (fun _ => rfl) rfl (hK _ (Mo.refl _))))
    · exact og_eq (pt t 0) rfl (fun f wf hq hd K hK => go_run rfl (wo_nc (.tmp 25) t 0 rfl (hd 0 rfl) (hK _ (Mo.refl _))))
    · exact og_eq (pt t 1) rfl (fun f wf hq hd K hK => go_run rfl (wo_un (fun v => Instr.fieldAt 59 v 1) (.tmp 26) (pt t 0) (pt t 1) (fun _ => rfl) (hd 1 rfl) (by kernel_rfl) (hK _ (Mo.refl _))))
    · exact og_eq (.map (some mb)) rfl (fun f wf hq hd K hK => have Qt := Qt.mo hq; go_run rfl (wo_load 57 (.tmp 27) (pt t 1) (.map (some mb)) rfl (hd 2 rfl) (run_one Qt 57 1 rfl Try.underlying57 rfl) (hK _ (Mo.refl _))))
    · exact og_eq (pt c 0) rfl (fun f wf hq hd K hK => go_run rfl (wo_mv (.tmp 7) (pt c 0) (fun _ => rfl) rfl (hK _ (Mo.refl _))))
    · exact og_eq (pt c 0) rfl (fun f wf hq hd K hK => go_run rfl (wo_nc (.tmp 29) c 0 rfl (hd 4 rfl) (hK _ (Mo.refl _))))
    · exact og_eq (pt c 4) rfl (fun f wf hq hd K hK => go_run rfl (wo_un (fun v => Instr.fieldAt 66 v 1) (.tmp 30) (pt c 0) (pt c 4) (fun _ => rfl) (hd 5 rfl) (by kernel_rfl) (hK _ (Mo.refl _))))
    · exact og_eq (.int .i64 (i)) rfl (fun f wf hq hd K hK => have Qc := Qc.mo hq; go_run rfl (wo_load 2 (.tmp 31) (pt c 4) (.int .i64 (i)) rfl (hd 6 rfl) (run_one Qc 2 4 rfl Try.underlying2 rfl) (hK _ (Mo.refl _))))
    · exact og_eq (pt c 0) rfl (fun f wf hq hd K hK => go_run rfl (wo_mv (.tmp 7) (pt c 0) (fun _ => rfl) rfl (hK _ (Mo.refl _))))
  intro kf2 w2 hq hR hne
  replace Qt := Qt.mo hq
  replace Qk := Qk.mo hq
  replace Qc := Qc.mo hq
  replace hM := hM.mo hq
  replace hS0 := hS0.mo hq
  replace hCb := hCb.mo hq
  replace M := M.trans hq
  clear hq hR hne
  refine wl_mup (.tmp 28) (.tmp 32) (.tmp 33) mb i c hM (by omega) hwi rfl rfl rfl rfl rfl rfl ?_
  intro w3 hM9 hK
  rw [fu_adr hiK, adr_none hiK] at hM9
  replace hM : OM w3 mb (adr (K ++ [(i, c)])) (K ++ [(i, c)]).length := by rw [List.length_append]; exact hM9
  replace Qt := hK.at Qt hmt
  replace Qk := hK.at Qk hmk
  replace Qc := hK.at Qc (fun e => hmc e.symm)
  replace hCb := hCb.mk hK (fun e => hmc e.symm)
  replace hS0 := hS0.kept hK (fun j hj e => hDm (e ▸ hj))
  replace M := M.tr hK (fun _ _ e => e)
  clear hM9 hK
  refine w_nil ?_
  refine xn_then ?_
  refine w_seq ?_
  refine w_seq ?_
  refine w_reg ?_
  refine wl_mv (.tmp 1) (pt k 0) (fun _ => rfl) rfl rfl ?_
  refine wl_nc (.tmp 34) k 0 rfl rfl rfl ?_
  refine wl_un (fun v => Instr.fieldAt 66 v 0) (.tmp 35) (pt k 0) (pt k 0) (fun _ => rfl) rfl (by kernel_rfl) rfl ?_
  refine wl_un (fun v => Instr.fieldAt 64 v 1) (.tmp 36) (pt k 0) (pt k 1) (fun _ => rfl) rfl (by kernel_rfl) rfl ?_
  refine wl_load 62 (.tmp 37) (pt k 1) (.agg #[pp l.p, pp r.p]) rfl rfl (run_row Qk 62 1 2 [pp l.p, pp r.p] rfl Try.underlying62 rfl sz62) rfl ?_
  refine wl_mv (.const (.int .i64 (0))) (.int .i64 (0)) (fun _ => rfl) rfl rfl ?_
  refine w_nil ?_
  refine xn_then ?_
  refine w_block ?_
  refine w_rounds 2 ?_
  refine w_seq ?_
  refine w_reg ?_
  refine wl_bin (fun x y => do eqGuard .lss 3 (.tmp 39) (.const (.int .i64 (2))) x y; binOp .lss 3 x y) (.tmp 39) (.const (.int .i64 (2))) (.int .i64 (0)) (.int .i64 (2)) (.bool true) (fun _ => rfl) rfl rfl (by kernel_rfl) rfl ?_
  refine w_nil ?_
  refine xn_then ?_
  refine w_seq ?_
  refine w_condT rfl ?_
  refine w_skip ?_
  refine xn_then ?_
  refine w_seq ?_
  refine w_block ?_
  refine w_seq ?_
  refine w_reg ?_
  refine wl_mv (.tmp 39) (.int .i64 (0)) (fun _ => rfl) rfl rfl ?_
  refine wl_bin (fun x y => Instr.index 62 x y) (.tmp 38) (.tmp 39) (.agg #[pp l.p, pp r.p]) (.int .i64 (0)) (pp l.p) (fun _ => rfl) rfl rfl (by kernel_rfl) rfl ?_
  refine wl_mv (.tmp 41) (.int .i64 (0)) (fun _ => rfl) rfl rfl ?_
  refine wl_mv (.tmp 42) (pp l.p) (fun _ => rfl) rfl rfl ?_
  refine w_nil ?_
  refine xn_then ?_
  have hsm : Smos [vq (pt c 0), vq (.int .i64 (0)), vq (pt t 0), vq (pp l.p), vq (pt c 0), (fun _ _ => True), vq (pt c 0), vq (pt c 0), vq (pt c 1)] := smos_cons (smo_vq _) (smos_cons (smo_vq _) (smos_cons (smo_vq _) (smos_cons (smo_vq _) (smos_cons (smo_vq _) (smos_cons (fun _ _ _ _ _ => trivial) (smos_cons (smo_vq _) (smos_cons (smo_vq _) (smos_cons (smo_vq _) (smos_nil)))))))))
  have hW0 := M.size
  obtain ⟨G, hGd⟩ : ∃ G, G = (fun (L9 : Nat → Bool) (f9 : Nat → Value) (w9 : World) => (L9 5 = false → Mo w3 w9) ∧ (L9 5 = true → ∃ x, f9 5 = pp x.p ∧ Copd mb (K ++ [(i, c)]) w3 (some c) l x w9)) := ⟨_, rfl⟩
  have hgr : ∀ (i : Nat) (v : Value), i ≠ 5 → ∀ (L9 : Nat → Bool) (f9 : Nat → Value) (a b : World), G L9 f9 a → L9 i = false → Mo a b → G (updB L9 i) (upd f9 i v) b := by
    intro i v h5 L9 f9 a b h _ m
    rw [hGd] at h ⊢
    simp only [updB_ne (Ne.symm h5), upd_ne (Ne.symm h5)]
    exact ⟨fun x => (h.1 x).trans m, fun x => (by obtain ⟨y, e, hp⟩ := h.2 x; exact ⟨y, e, hp.mo m⟩)⟩
  refine w_ogl 9 G [vq (pt c 0), vq (.int .i64 (0)), vq (pt t 0), vq (pp l.p), vq (pt c 0), (fun _ _ => True), vq (pt c 0), vq (pt c 0), vq (pt c 1)] (by kernel_rfl) (by kernel_rfl) (by kernel_rfl) (by kernel_rfl) rfl (fun f => by rw [hGd]; exact ⟨fun _ => (Mo.refl _).drew, (fun e => by cases e)⟩) ?_ ?_
  · refine ea_cons ?_ (ea_cons ?_ (ea_cons ?_ (ea_cons ?_ (ea_cons ?_ (ea_cons ?_ (ea_cons ?_ (ea_cons ?_ (ea_cons ?_ (ea_nil)))))))))
    · exact ol_eq (pt c 0) rfl (hgr 0 _ (by decide)) hsm (fun L9 f wf hG hd K hK => go_run rfl (wo_mv (.tmp 7) (pt c 0) (fun _ => rfl) rfl (hK _ (Mo.refl _))))
    · exact ol_eq (.int .i64 (0)) rfl (hgr 1 _ (by decide)) hsm (fun L9 f wf hG hd K hK => go_run rfl (wo_mv (.tmp 8) (.int .i64 (0)) (fun _ => rfl) rfl (hK _ (Mo.refl _))))
    · exact ol_eq (pt t 0) rfl (hgr 2 _ (by decide)) hsm (fun L9 f wf hG hd K hK => go_run rfl (wo_mv (.tmp 0) (pt t 0) (fun _ => rfl) rfl (hK _ (Mo.refl _))))
    · exact ol_eq (pp l.p) rfl (hgr 3 _ (by decide)) hsm (fun L9 f wf hG hd K hK => go_run rfl (wo_mv (.tmp 9) (pp l.p) (fun _ => rfl) rfl (hK _ (Mo.refl _))))
    · exact ol_eq (pt c 0) rfl (hgr 4 _ (by decide)) hsm (fun L9 f wf hG hd K hK => go_run rfl (wo_mv (.tmp 7) (pt c 0) (fun _ => rfl) rfl (hK _ (Mo.refl _))))
    · refine ⟨fun L9 f wf hG hi hd K9 hK => ?_⟩
      rw [hGd] at hG
      have hmo := hG.1 hi
      refine go_run rfl (wo_callx 36 [(.tmp 45), (.tmp 46), (.tmp 47)] _ [pt t 0, pp l.p, pt c 0] rfl (li3 (hd 2 rfl).2 (hd 3 rfl).2 (hd 4 rfl).2) (fun _ _ => by kernel_rfl) (ihl (some k) (some c) (K ++ [(i, c)]) wf (hS0.mo hmo) hRl (Qt.mo hmo) (hM.mo hmo) (nd_l hnd) hwl (by simp; omega)) (fun e9 w9 ⟨x, he, hp⟩ => ⟨_, he, hK _ w9 ?_ trivial (fun j u hj hr => ?_)⟩))
      · rw [hGd]
        simp only [updB_eq, upd_eq]
        exact ⟨fun e => (by cases e), fun _ => ⟨x, rfl, copd_mo hp hmo⟩⟩
      · match j, hj, hr with
        | 0, _, hr => exact hr
        | 1, _, hr => exact hr
        | 2, _, hr => exact hr
        | 3, _, hr => exact hr
        | 4, _, hr => exact hr
        | 5, _, hr => exact hr
        | 6, _, hr => exact hr
        | 7, _, hr => exact hr
        | 8, _, hr => exact hr
        | j + 9, _, _ => trivial
    · exact ol_eq (pt c 0) rfl (hgr 6 _ (by decide)) hsm (fun L9 f wf hG hd K hK => go_run rfl (wo_nc (.tmp 43) c 0 rfl (hd 0 rfl) (hK _ (Mo.refl _))))
    · exact ol_eq (pt c 0) rfl (hgr 7 _ (by decide)) hsm (fun L9 f wf hG hd K hK => go_run rfl (wo_un (fun v => Instr.fieldAt 66 v 0) (.tmp 49) (pt c 0) (pt c 0) (fun _ => rfl) (hd 6 rfl) (by kernel_rfl) (hK _ (Mo.refl _))))
    · exact ol_eq (pt c 1) rfl (hgr 8 _ (by decide)) hsm (fun L9 f wf hG hd K hK => go_run rfl (wo_un (fun v => Instr.fieldAt 64 v 1) (.tmp 50) (pt c 0) (pt c 1) (fun _ => rfl) (hd 7 rfl) (by kernel_rfl) (hK _ (Mo.refl _))))
  intro L9 f w4 hall hG hR
  rw [hGd] at hG
  obtain ⟨x1, e5, hs0, hL0, hr0, hn0, hM9, hK9⟩ := hG.2 (hall 5 rfl)
  have e1 := hR 1 rfl
  have e8 := hR 8 rfl
  clear hG hall hR hgr hsm hGd
  have hxm0 : ∀ k ∈ x1.ad, k ≠ mb := fun k hk e => by have := (hr0 k hk).1; have := hM.lt; omega
  have hxc0 : ∀ k ∈ x1.ad, k ≠ c := fun k hk e => by have := (hr0 k hk).1; have := Qc.lt; omega
  replace hr0 : ∀ k ∈ x1.ad, w3.heap.size ≤ k := fun k hk => (hr0 k hk).1
  replace hM := hM9
  clear hM9
  replace Qt := hK9.at Qt hmt
  replace Qk := hK9.at Qk hmk
  replace Qc := hK9.at Qc (fun e => hmc e.symm)
  replace hCb := hCb.mk hK9 (fun e => hmc e.symm)
  replace hS0 := hS0.kept hK9 (fun j hj e => hDm (e ▸ hj))
  replace M := M.tr hK9 (fun _ _ e => e)
  clear hK9
  refine wl_bin (fun x y => Instr.indexAt 62 x y) (.tmp 51) (.tmp 44) (pt c 1) (.int .i64 (0)) (pt c 1) (fun _ => rfl) e8 e1 (by kernel_rfl) rfl ?_
  refine wl_st1x 56 (.tmp 52) (.tmp 48) c 1 (pp x1.p) [pp none, .pointer none, .pointer none, .int .i64 (s), .int .i64 (i)] [pp none, pp x1.p, .pointer none, .int .i64 (s), .int .i64 (i)] Qc rfl rfl rfl e5 rfl sz56 (pp_cells _) (pp_one _) rfl rfl ?_
  intro w5 hT Qn
  replace Qc := Qn
  clear Qn
  replace Qt := hT.other _ _ ne_t_c Qt
  replace Qk := hT.other _ _ ne_k_c Qk
  replace hCb := hT.cb _ hCb
  have hTk : Mk (fun j => j = c) _ _ := (Mk.refl _ _).st hT rfl
  replace hM := hM.mk hTk hmc
  replace hS0 := hS0.kept hTk (fun j hj e => by have := hDl j hj; omega)
  replace hL0 := hL0.kept hTk hxc0
  replace M := M.tr hTk (fun j hj e => by omega)
  clear hT hTk
  refine w_nil ?_
  refine xn_blk ?_
  refine xn_then ?_
  refine w_reg ?_
  refine wl_bin (fun x y => do eqGuard .add 3 (.tmp 39) (.const (.int .i64 (1))) x y; binOp .add 3 x y) (.tmp 39) (.const (.int .i64 (1))) (.int .i64 (0)) (.int .i64 (1)) (.int .i64 (1)) (fun _ => rfl) rfl rfl (by kernel_rfl) rfl ?_
  refine wl_mv (.tmp 53) (.int .i64 (1)) (fun _ => rfl) rfl rfl ?_
  refine w_nil ?_
  refine xn_rounds ?_
  refine w_seq ?_
  refine w_reg ?_
  refine wl_bin (fun x y => do eqGuard .lss 3 (.tmp 39) (.const (.int .i64 (2))) x y; binOp .lss 3 x y) (.tmp 39) (.const (.int .i64 (2))) (.int .i64 (1)) (.int .i64 (2)) (.bool true) (fun _ => rfl) rfl rfl (by kernel_rfl) rfl ?_
  refine w_nil ?_
  refine xn_then ?_
  refine w_seq ?_
  refine w_condT rfl ?_
  refine w_skip ?_
  refine xn_then ?_
  refine w_seq ?_
  refine w_block ?_
  refine w_seq ?_
  refine w_reg ?_
  refine wl_mv (.tmp 39) (.int .i64 (1)) (fun _ => rfl) rfl rfl ?_
  refine wl_bin (fun x y => Instr.index 62 x y) (.tmp 38) (.tmp 39) (.agg #[pp l.p, pp r.p]) (.int .i64 (1)) (pp r.p) (fun _ => rfl) rfl rfl (by kernel_rfl) rfl ?_
  refine wl_mv (.tmp 41) (.int .i64 (1)) (fun _ => rfl) rfl rfl ?_
  refine wl_mv (.tmp 42) (pp r.p) (fun _ => rfl) rfl rfl ?_
  refine w_nil ?_
  refine xn_then ?_
  have hsm : Smos [vq (pt c 0), vq (.int .i64 (1)), vq (pt t 0), vq (pp r.p), vq (pt c 0), (fun _ _ => True), vq (pt c 0), vq (pt c 0), vq (pt c 1)] := smos_cons (smo_vq _) (smos_cons (smo_vq _) (smos_cons (smo_vq _) (smos_cons (smo_vq _) (smos_cons (smo_vq _) (smos_cons (fun _ _ _ _ _ => trivial) (smos_cons (smo_vq _) (smos_cons (smo_vq _) (smos_cons (smo_vq _) (smos_nil)))))))))
  have hW1 := M.size
  obtain ⟨G, hGd⟩ : ∃ G, G = (fun (L9 : Nat → Bool) (f9 : Nat → Value) (w9 : World) => (L9 5 = false → Mo w5 w9) ∧ (L9 5 = true → ∃ x, f9 5 = pp x.p ∧ Copd mb ((K ++ [(i, c)]) ++ pv x1) w5 (some c) r x w9)) := ⟨_, rfl⟩
  have hgr : ∀ (i : Nat) (v : Value), i ≠ 5 → ∀ (L9 : Nat → Bool) (f9 : Nat → Value) (a b : World), G L9 f9 a → L9 i = false → Mo a b → G (updB L9 i) (upd f9 i v) b := by
    intro i v h5 L9 f9 a b h _ m
    rw [hGd] at h ⊢
    simp only [updB_ne (Ne.symm h5), upd_ne (Ne.symm h5)]
    exact ⟨fun x => (h.1 x).trans m, fun x => (by obtain ⟨y, e, hp⟩ := h.2 x; exact ⟨y, e, hp.mo m⟩)⟩
  refine w_ogl 9 G [vq (pt c 0), vq (.int .i64 (1)), vq (pt t 0), vq (pp r.p), vq (pt c 0), (fun _ _ => True), vq (pt c 0), vq (pt c 0), vq (pt c 1)] (by kernel_rfl) (by kernel_rfl) (by kernel_rfl) (by kernel_rfl) rfl (fun f => by rw [hGd]; exact ⟨fun _ => (Mo.refl _).drew, (fun e => by cases e)⟩) ?_ ?_
  · refine ea_cons ?_ (ea_cons ?_ (ea_cons ?_ (ea_cons ?_ (ea_cons ?_ (ea_cons ?_ (ea_cons ?_ (ea_cons ?_ (ea_cons ?_ (ea_nil)))))))))
    · exact ol_eq (pt c 0) rfl (hgr 0 _ (by decide)) hsm (fun L9 f wf hG hd K hK => go_run rfl (wo_mv (.tmp 7) (pt c 0) (fun _ => rfl) rfl (hK _ (Mo.refl _))))
    · exact ol_eq (.int .i64 (1)) rfl (hgr 1 _ (by decide)) hsm (fun L9 f wf hG hd K hK => go_run rfl (wo_mv (.tmp 8) (.int .i64 (1)) (fun _ => rfl) rfl (hK _ (Mo.refl _))))
    · exact ol_eq (pt t 0) rfl (hgr 2 _ (by decide)) hsm (fun L9 f wf hG hd K hK => go_run rfl (wo_mv (.tmp 0) (pt t 0) (fun _ => rfl) rfl (hK _ (Mo.refl _))))
    · exact ol_eq (pp r.p) rfl (hgr 3 _ (by decide)) hsm (fun L9 f wf hG hd K hK => go_run rfl (wo_mv (.tmp 9) (pp r.p) (fun _ => rfl) rfl (hK _ (Mo.refl _))))
    · exact ol_eq (pt c 0) rfl (hgr 4 _ (by decide)) hsm (fun L9 f wf hG hd K hK => go_run rfl (wo_mv (.tmp 7) (pt c 0) (fun _ => rfl) rfl (hK _ (Mo.refl _))))
    · refine ⟨fun L9 f wf hG hi hd K9 hK => ?_⟩
      rw [hGd] at hG
      have hmo := hG.1 hi
      refine go_run rfl (wo_callx 36 [(.tmp 45), (.tmp 46), (.tmp 47)] _ [pt t 0, pp r.p, pt c 0] rfl (li3 (hd 2 rfl).2 (hd 3 rfl).2 (hd 4 rfl).2) (fun _ _ => by kernel_rfl) (ihr (some k) (some c) ((K ++ [(i, c)]) ++ pv x1) wf (hS0.mo hmo) hRr (Qt.mo hmo) (hM.mo hmo) (nd_r hnd hs0) hwr (by simp [pv_len]; have := hs0.len; omega)) (fun e9 w9 ⟨x, he, hp⟩ => ⟨_, he, hK _ w9 ?_ trivial (fun j u hj hr => ?_)⟩))
      · rw [hGd]
        simp only [updB_eq, upd_eq]
        exact ⟨fun e => (by cases e), fun _ => ⟨x, rfl, copd_mo hp hmo⟩⟩
      · match j, hj, hr with
        | 0, _, hr => exact hr
        | 1, _, hr => exact hr
        | 2, _, hr => exact hr
        | 3, _, hr => exact hr
        | 4, _, hr => exact hr
        | 5, _, hr => exact hr
        | 6, _, hr => exact hr
        | 7, _, hr => exact hr
        | 8, _, hr => exact hr
        | j + 9, _, _ => trivial
    · exact ol_eq (pt c 0) rfl (hgr 6 _ (by decide)) hsm (fun L9 f wf hG hd K hK => go_run rfl (wo_nc (.tmp 43) c 0 rfl (hd 0 rfl) (hK _ (Mo.refl _))))
    · exact ol_eq (pt c 0) rfl (hgr 7 _ (by decide)) hsm (fun L9 f wf hG hd K hK => go_run rfl (wo_un (fun v => Instr.fieldAt 66 v 0) (.tmp 49) (pt c 0) (pt c 0) (fun _ => rfl) (hd 6 rfl) (by kernel_rfl) (hK _ (Mo.refl _))))
    · exact ol_eq (pt c 1) rfl (hgr 8 _ (by decide)) hsm (fun L9 f wf hG hd K hK => go_run rfl (wo_un (fun v => Instr.fieldAt 64 v 1) (.tmp 50) (pt c 0) (pt c 1) (fun _ => rfl) (hd 7 rfl) (by kernel_rfl) (hK _ (Mo.refl _))))
  intro L9 f w6 hall hG hR
  rw [hGd] at hG
  obtain ⟨x2, e5, hs1, hL1, hr1, hn1, hM9, hK9⟩ := hG.2 (hall 5 rfl)
  have e1 := hR 1 rfl
  have e8 := hR 8 rfl
  clear hG hall hR hgr hsm hGd
  have hxm1 : ∀ k ∈ x2.ad, k ≠ mb := fun k hk e => by have := (hr1 k hk).1; have := hM.lt; omega
  have hxc1 : ∀ k ∈ x2.ad, k ≠ c := fun k hk e => by have := (hr1 k hk).1; have := Qc.lt; omega
  replace hr1 : ∀ k ∈ x2.ad, w5.heap.size ≤ k := fun k hk => (hr1 k hk).1
  have hdj : ∀ k ∈ x1.ad, k ∉ x2.ad := fun k h1 h2 => by have := lay_lt hL0 k h1; have := hr1 k h2; omega
  replace hM := hM9
  clear hM9
  replace Qt := hK9.at Qt hmt
  replace Qk := hK9.at Qk hmk
  replace Qc := hK9.at Qc (fun e => hmc e.symm)
  replace hCb := hCb.mk hK9 (fun e => hmc e.symm)
  replace hS0 := hS0.kept hK9 (fun j hj e => hDm (e ▸ hj))
  replace hL0 := hL0.kept hK9 hxm0
  replace M := M.tr hK9 (fun _ _ e => e)
  clear hK9
  refine wl_bin (fun x y => Instr.indexAt 62 x y) (.tmp 51) (.tmp 44) (pt c 1) (.int .i64 (1)) (pt c 2) (fun _ => rfl) e8 e1 (by kernel_rfl) rfl ?_
  refine wl_st1x 56 (.tmp 52) (.tmp 48) c 2 (pp x2.p) [pp none, pp x1.p, .pointer none, .int .i64 (s), .int .i64 (i)] [pp none, pp x1.p, pp x2.p, .int .i64 (s), .int .i64 (i)] Qc rfl rfl rfl e5 rfl sz56 (pp_cells _) (pp_one _) rfl rfl ?_
  intro w7 hT Qn
  replace Qc := Qn
  clear Qn
  replace Qt := hT.other _ _ ne_t_c Qt
  replace Qk := hT.other _ _ ne_k_c Qk
  replace hCb := hT.cb _ hCb
  have hTk : Mk (fun j => j = c) _ _ := (Mk.refl _ _).st hT rfl
  replace hM := hM.mk hTk hmc
  replace hS0 := hS0.kept hTk (fun j hj e => by have := hDl j hj; omega)
  replace hL0 := hL0.kept hTk hxc0
  replace hL1 := hL1.kept hTk hxc1
  replace M := M.tr hTk (fun j hj e => by omega)
  clear hT hTk
  refine w_nil ?_
  refine xn_blk ?_
  refine xn_then ?_
  refine w_reg ?_
  refine wl_bin (fun x y => do eqGuard .add 3 (.tmp 39) (.const (.int .i64 (1))) x y; binOp .add 3 x y) (.tmp 39) (.const (.int .i64 (1))) (.int .i64 (1)) (.int .i64 (1)) (.int .i64 (2)) (fun _ => rfl) rfl rfl (by kernel_rfl) rfl ?_
  refine wl_mv (.tmp 53) (.int .i64 (2)) (fun _ => rfl) rfl rfl ?_
  refine w_nil ?_
  refine xn_rounds ?_
  refine w_seq ?_
  refine w_reg ?_
  refine wl_bin (fun x y => do eqGuard .lss 3 (.tmp 39) (.const (.int .i64 (2))) x y; binOp .lss 3 x y) (.tmp 39) (.const (.int .i64 (2))) (.int .i64 (2)) (.int .i64 (2)) (.bool false) (fun _ => rfl) rfl rfl (by kernel_rfl) rfl ?_
  refine w_nil ?_
  refine xn_then ?_
  refine w_seq ?_
  refine w_condF rfl ?_
  refine w_exit ?_
  refine xx_then ?_
  refine xx_then ?_
  refine xx_blk ?_
  refine xn_then ?_
  refine w_seq ?_
  refine w_reg ?_
  refine wl_mv (.tmp 7) (pt c 0) (fun _ => rfl) rfl rfl ?_
  refine wl_mv (.tmp 54) (pt c 0) (fun _ => rfl) rfl rfl ?_
  refine w_nil ?_
  refine xn_then ?_
  refine w_ret ?_
  exact w_ret1 _ (pt c 0) rfl rfl ⟨.n c i s x1 x2, rfl, ⟨rfl, rfl, hs0, hs1⟩, ⟨Qc, hCb, hL0, hL1⟩, fun k hk => (by
      simp only [T.ad, List.mem_cons, List.mem_append] at hk
      rcases hk with rfl | hk | hk
      · exact ⟨N_c, Qc.lt⟩
      · exact ⟨Nat.le_trans hW0 (hr0 k hk), lay_lt hL0 k hk⟩
      · exact ⟨Nat.le_trans hW1 (hr1 k hk), lay_lt hL1 k hk⟩), (by
      show (c :: (x1.ad ++ x2.ad)).Nodup
      rw [List.nodup_cons, List.nodup_append]
      refine ⟨fun q => ?_, hn0, hn1, fun a ha b hb e => hdj a ha (e ▸ hb)⟩
      rcases List.mem_append.1 q with q | q
      · exact hxc0 c q rfl
      · exact hxc1 c q rfl), (by
      rw [show K ++ pv (T.n c i s x1 x2) = ((K ++ [(i, c)]) ++ pv x1) ++ pv x2 by simp [pv]]; exact hM), M⟩
theorem cop_n1 {u0 : Option Nat} {a k : Nat} {i s : Int} {l r : T} {K : List (Int × Nat)} (hS0 : HS D0 w t0 mb0 R0 root0 lk0) (hDm : ¬ D0 mb) (hDl : ∀ j, D0 j → j < w.heap.size) (hmt : ¬ t = mb) (hR : Rep R0 u0 (T.n k i s l r)) (Qt : At w t [pp rt, .map (some mb), .int .i64 lkt]) (hM : OM w mb (adr K) K.length) (hnd : (K.map (·.1) ++ (T.n k i s l r).ids).Nodup) (hwf : ∀ j ∈ (T.n k i s l r).ids, (Lit.int .i64 j).wf = true) (hlen : K.length + (T.n k i s l r).kv.length ≤ 2000)
    (ihl : ∀ (u0 above : Option Nat) (K : List (Int × Nat)) (w : World), HS D0 w t0 mb0 R0 root0 lk0 → Rep R0 u0 l → At w t [pp rt, .map (some mb), .int .i64 lkt] → OM w mb (adr K) K.length → (K.map (·.1) ++ l.ids).Nodup → (∀ i ∈ l.ids, (Lit.int .i64 i).wf = true) → K.length + l.kv.length ≤ 2000 → Calls Try.prog 36 #[pt t 0, pp l.p, pp above] w fun e w' => ∃ tr', e = .returned (pp tr'.p) ∧ Copd mb K w above l tr' w') (ihr : ∀ (u0 above : Option Nat) (K : List (Int × Nat)) (w : World), HS D0 w t0 mb0 R0 root0 lk0 → Rep R0 u0 r → At w t [pp rt, .map (some mb), .int .i64 lkt] → OM w mb (adr K) K.length → (K.map (·.1) ++ r.ids).Nodup → (∀ i ∈ r.ids, (Lit.int .i64 i).wf = true) → K.length + r.kv.length ≤ 2000 → Calls Try.prog 36 #[pt t 0, pp r.p, pp above] w fun e w' => ∃ tr', e = .returned (pp tr'.p) ∧ Copd mb K w above r tr' w') : Calls Try.prog 36 #[pt t 0, pt k 0, pp (some a)] w fun e w' => ∃ tr', e = .returned (pp tr'.p) ∧ Copd mb K w (some a) (T.n k i s l r) tr' w' := by
  obtain ⟨hRk, hRl, hRr⟩ := hR
  have Qk := hS0.rc _ _ hRk
  have hmk : ¬ k = mb := fun e => hDm (e ▸ hS0.dk hRk)
  have hiK := nd_i hnd
  have hwi := hwf i (by show i ∈ l.ids ++ i :: r.ids; simp)
  have hwl : ∀ j ∈ l.ids, (Lit.int .i64 j).wf = true := fun j hj => hwf j (by show j ∈ l.ids ++ i :: r.ids; simp [hj])
  have hwr : ∀ j ∈ r.ids, (Lit.int .i64 j).wf = true := fun j hj => hwf j (by show j ∈ l.ids ++ i :: r.ids; simp [hj])
  simp only [T.kv, List.length_append, List.length_cons] at hlen
  refine w_enter 55 Try.func36 Try.ntmps36 rfl rfl ?_
  have M : Mk (fun j => j = mb) w w := Mk.refl _ _
  refine w_seq ?_
  refine w_reg ?_
  refine wl_mv (.const (.pointer none)) (pp none) (fun _ => rfl) rfl rfl ?_
  refine w_nil ?_
  refine xn_then ?_
  refine w_seq ?_
  refine w_seq ?_
  refine w_reg ?_
  refine wl_mv (.tmp 1) (pt k 0) (fun _ => rfl) rfl rfl ?_
  refine wl_bin (fun x y => do eqGuard .eql 56 (.tmp 10) (.const (.pointer none)) x y; binOp .eql 56 x y) (.tmp 10) (.const (.pointer none)) (pt k 0) (pp none) (.bool false) (fun _ => rfl) rfl rfl (eq56 (some k) _ _ _) rfl ?_
  refine w_nil ?_
  refine xn_then ?_
  refine w_condF rfl ?_
  refine w_skip ?_
  refine xn_then ?_
  refine w_seq ?_
  have hsm : Smos [vq (pt a 0), vq (pt k 0), vq (pt k 0), vq (pt k 0), vq (pt k 3), vq (.int .i64 (s)), vq (.agg #[pt a 0, .pointer none, .pointer none, .int .i64 (s)]), vq (pt k 0), vq (pt k 0), vq (pt k 4), vq (.int .i64 (i)), vq (.agg #[pt a 0, .pointer none, .pointer none, .int .i64 (s), .int .i64 (i)]), fun u w9 => ∃ c, u = pt c 0 ∧ w.heap.size ≤ c ∧ At w9 c [pt a 0, .pointer none, .pointer none, .int .i64 (s), .int .i64 (i)] ∧ Cb w9 c] := smos_cons (smo_vq _) (smos_cons (smo_vq _) (smos_cons (smo_vq _) (smos_cons (smo_vq _) (smos_cons (smo_vq _) (smos_cons (smo_vq _) (smos_cons (smo_vq _) (smos_cons (smo_vq _) (smos_cons (smo_vq _) (smos_cons (smo_vq _) (smos_cons (smo_vq _) (smos_cons (smo_vq _) (smos_cons (fun u a b ⟨c, h1, h2, h3, h4⟩ m => ⟨c, h1, h2, h3.mo m, h4.mo m⟩) (smos_nil)))))))))))))
  have hgr : ∀ a b : World, Mo w a → Mo a b → Mo w b := fun _ _ h m => h.trans m
  refine w_ogc 13 (fun w9 => Mo w w9) [vq (pt a 0), vq (pt k 0), vq (pt k 0), vq (pt k 0), vq (pt k 3), vq (.int .i64 (s)), vq (.agg #[pt a 0, .pointer none, .pointer none, .int .i64 (s)]), vq (pt k 0), vq (pt k 0), vq (pt k 4), vq (.int .i64 (i)), vq (.agg #[pt a 0, .pointer none, .pointer none, .int .i64 (s), .int .i64 (i)]), fun u w9 => ∃ c, u = pt c 0 ∧ w.heap.size ≤ c ∧ At w9 c [pt a 0, .pointer none, .pointer none, .int .i64 (s), .int .i64 (i)] ∧ Cb w9 c] [] (by kernel_rfl) (by kernel_rfl) (by kernel_rfl) (by kernel_rfl) rfl (by kernel_rfl) (by kernel_rfl) latec_nil ((Mo.refl _).drew) ?_ ?_
  · refine ea_cons ?_ (ea_cons ?_ (ea_cons ?_ (ea_cons ?_ (ea_cons ?_ (ea_cons ?_ (ea_cons ?_ (ea_cons ?_ (ea_cons ?_ (ea_cons ?_ (ea_cons ?_ (ea_cons ?_ (ea_cons ?_ (ea_nil)))))))))))))
    · exact oc_eq (pt a 0) rfl hgr hsm (fun f wf hG hd K hK => have Qt := Qt.mo hG; have Qk := Qk.mo hG; go_run rfl (wo_mv (.tmp 2) (pt a 0) (fun _ => rfl) rfl (hK _ (Mo.refl _))))
    · exact oc_eq (pt k 0) rfl hgr hsm (fun f wf hG hd K hK => have Qt := Qt.mo hG; have Qk := Qk.mo hG; go_run rfl (wo_mv (.tmp 1) (pt k 0) (fun _ => rfl) rfl (hK _ (Mo.refl _))))
    · exact oc_eq (pt k 0) rfl hgr hsm (fun f wf hG hd K hK => have Qt := Qt.mo hG; have Qk := Qk.mo hG; go_run rfl (wo_nc (.tmp 13) k 0 rfl (hd 1 rfl) (hK _ (Mo.refl _))))
    · exact oc_eq (pt k 0) rfl hgr hsm (fun f wf hG hd K hK => have Qt := Qt.mo hG; have Qk := Qk.mo hG; go_run rfl (wo_un (fun v => Instr.fieldAt 66 v 0) (.tmp 14) (pt k 0) (pt k 0) (fun _ => rfl) (hd 2 rfl) (by kernel_rfl) (hK _ (Mo.refl _))))
    · exact oc_eq (pt k 3) rfl hgr hsm (fun f wf hG hd K hK => have Qt := Qt.mo hG; have Qk := Qk.mo hG; go_run rfl (wo_un (fun v => Instr.fieldAt 64 v 2) (.tmp 15) (pt k 0) (pt k 3) (fun _ => rfl) (hd 3 rfl) (by kernel_rfl) (hK _ (Mo.refl _))))
    · exact oc_eq (.int .i64 (s)) rfl hgr hsm (fun f wf hG hd K hK => have Qt := Qt.mo hG; have Qk := Qk.mo hG; go_run rfl (wo_load 3 (.tmp 16) (pt k 3) (.int .i64 (s)) rfl (hd 4 rfl) (run_one Qk 3 3 rfl Try.underlying3 rfl) (hK _ (Mo.refl _))))
    · exact oc_eq (.agg #[pt a 0, .pointer none, .pointer none, .int .i64 (s)]) rfl hgr hsm (fun f wf hG hd K hK => have Qt := Qt.mo hG; have Qk := Qk.mo hG; go_run rfl (wo_build 64 [(0, (.tmp 12)), (2, (.tmp 17))] [(0, pt a 0), (2, .int .i64 (s))] (.agg #[pt a 0, .pointer none, .pointer none, .int .i64 (s)]) rfl (lp2 (hd 0 rfl) (hd 5 rfl)) (by kernel_rfl) (hK _ (Mo.refl _))))
    · exact oc_eq (pt k 0) rfl hgr hsm (fun f wf hG hd K hK => have Qt := Qt.mo hG; have Qk := Qk.mo hG; go_run rfl (wo_mv (.tmp 1) (pt k 0) (fun _ => rfl) rfl (hK _ (Mo.refl _))))
    · exact oc_eq (pt k 0) rfl hgr hsm (fun f wf hG hd K hK => have Qt := Qt.mo hG; have Qk := Qk.mo hG; go_run rfl (wo_nc (.tmp 19) k 0 rfl (hd 7 rfl) (hK _ (Mo.refl _))))
    · exact oc_eq (pt k 4) rfl hgr hsm (fun f wf hG hd K hK => have Qt := Qt.mo hG; have Qk := Qk.mo hG; go_run rfl (wo_un (fun v => Instr.fieldAt 66 v 1) (.tmp 20) (pt k 0) (pt k 4) (fun _ => rfl) (hd 8 rfl) (by kernel_rfl) (hK _ (Mo.refl _))))
    · exact oc_eq (.int .i64 (i)) rfl hgr hsm (fun f wf hG hd K hK => have Qt := Qt.mo hG; have Qk := Qk.mo hG; go_run rfl (wo_load 2 (.tmp 21) (pt k 4) (.int .i64 (i)) rfl (hd 9 rfl) (run_one Qk 2 4 rfl Try.underlying2 rfl) (hK _ (Mo.refl _))))
    · exact oc_eq (.agg #[pt a 0, .pointer none, .pointer none, .int .i64 (s), .int .i64 (i)]) rfl hgr hsm (fun f wf hG hd K hK => have Qt := Qt.mo hG; have Qk := Qk.mo hG; go_run rfl (wo_build 66 [(0, (.tmp 18)), (1, (.tmp 22))] [(0, .agg #[pt a 0, .pointer none, .pointer none, .int .i64 (s)]), (1, .int .i64 (i))] (.agg #[pt a 0, .pointer none, .pointer none, .int .i64 (s), .int .i64 (i)]) rfl (lp2 (hd 6 rfl) (hd 10 rfl)) (by kernel_rfl) (hK _ (Mo.refl _))))
    · exact ⟨fun f wf hG hd K hK => go_run rfl (wo_boxc 66 (.tmp 23) (.agg #[pt a 0, .pointer none, .pointer none, .int .i64 (s), .int .i64 (i)]) #[pt a 0, .pointer none, .pointer none, .int .i64 (s), .int .i64 (i)] rfl (hd 11 rfl) (fun _ => by kernel_rfl) (fun c w9 hc _ hq hA hB => hK _ w9 (hG.trans hq) ⟨c, rfl, by have := hG.size; omega, hA, hB⟩ (fun j u _ hr => hsm j u _ _ hr hq)))⟩
  intro f w1 hq hR
  obtain ⟨c, ec, hcW, Qc, hCb⟩ := hR 12 rfl
  have ne_t_c : t ≠ c := by have := Qt.lt; omega
  have ne_k_c : k ≠ c := by have := Qk.lt; omega
  have hmc : mb ≠ c := by have := hM.lt; omega
  have N_c : w.heap.size ≤ c := by have := M.size; omega
  replace Qt := Qt.mo hq
  replace Qk := Qk.mo hq
  replace hM := hM.mo hq
  replace hS0 := hS0.mo hq
  replace M := M.trans hq
  clear hq hR hsm hgr
  refine wl_mv (.tmp 24) (pt c 0) (fun _ => rfl) ec rfl ?_
  refine w_nil ?_
  refine xn_then ?_
  refine w_seq ?_
  refine w_any 9 [.inl (pt t 0), .inl (pt t 0), .inl (pt t 1), .inl (.map (some mb)), .inl (pt c 0), .inl (pt c 0), .inl (pt c 4), .inl (.int .i64 (i)), .inl (pt c 0)] [] (by kernel_rfl) (by kernel_rfl) (by kernel_rfl) (by kernel_rfl) rfl (by kernel_rfl) (by kernel_rfl) late_nil ?_ ?_ ?_
  · exact Ds.none rfl
  · refine ea_cons ?_ (ea_cons ?_ (ea_cons ?_ (ea_cons ?_ (ea_cons ?_ (ea_cons ?_ (ea_cons ?_ (ea_cons ?_ (ea_cons ?_ (ea_nil)))))))))
    · exact og_eq (pt t 0) rfl (fun f wf hq hd K hK => go_run rfl (wo_mv (.tmp 0) (pt t 0) (fun _ => rfl) rfl (hK _ (Mo.refl _))))
    · exact og_eq (pt t 0) rfl (fun f wf hq hd K hK => go_run rfl (wo_nc (.tmp 25) t 0 rfl (hd 0 rfl) (hK _ (Mo.refl _))))
    · exact og_eq (pt t 1) rfl (fun f wf hq hd K hK => go_run rfl (wo_un (fun v => Instr.fieldAt 59 v 1) (.tmp 26) (pt t 0) (pt t 1) (fun _ => rfl) (hd 1 rfl) (by kernel_rfl) (hK _ (Mo.refl _))))
    · exact og_eq (.map (some mb)) rfl (fun f wf hq hd K hK => have Qt := Qt.mo hq; go_run rfl (wo_load 57 (.tmp 27) (pt t 1) (.map (some mb)) rfl (hd 2 rfl) (run_one Qt 57 1 rfl Try.underlying57 rfl) (hK _ (Mo.refl _))))
    · exact og_eq (pt c 0) rfl (fun f wf hq hd K hK => go_run rfl (wo_mv (.tmp 7) (pt c 0) (fun _ => rfl) rfl (hK _ (Mo.refl _))))
    · exact og_eq (pt c 0) rfl (fun f wf hq hd K hK => go_run rfl (wo_nc (.tmp 29) c 0 rfl (hd 4 rfl) (hK _ (Mo.refl _))))
    · exact og_eq (pt c 4) rfl (fun f wf hq hd K hK => go_run rfl (wo_un (fun v => Instr.fieldAt 66 v 1) (.tmp 30) (pt c 0) (pt c 4) (fun _ => rfl) (hd 5 rfl) (by kernel_rfl) (hK _ (Mo.refl _))))
    · exact og_eq (.int .i64 (i)) rfl (fun f wf hq hd K hK => have Qc := Qc.mo hq; go_run rfl (wo_load 2 (.tmp 31) (pt c 4) (.int .i64 (i)) rfl (hd 6 rfl) (run_one Qc 2 4 rfl Try.underlying2 rfl) (hK _ (Mo.refl _))))
    · exact og_eq (pt c 0) rfl (fun f wf hq hd K hK => go_run rfl (wo_mv (.tmp 7) (pt c 0) (fun _ => rfl) rfl (hK _ (Mo.refl _))))
  intro kf2 w2 hq hR hne
  replace Qt := Qt.mo hq
  replace Qk := Qk.mo hq
  replace Qc := Qc.mo hq
  replace hM := hM.mo hq
  replace hS0 := hS0.mo hq
  replace hCb := hCb.mo hq
  replace M := M.trans hq
  clear hq hR hne
  refine wl_mup (.tmp 28) (.tmp 32) (.tmp 33) mb i c hM (by omega) hwi rfl rfl rfl rfl rfl rfl ?_
  intro w3 hM9 hK
  rw [fu_adr hiK, adr_none hiK] at hM9
  replace hM : OM w3 mb (adr (K ++ [(i, c)])) (K ++ [(i, c)]).length := by rw [List.length_append]; exact hM9
  replace Qt := hK.at Qt hmt
  replace Qk := hK.at Qk hmk
  replace Qc := hK.at Qc (fun e => hmc e.symm)
  replace hCb := hCb.mk hK (fun e => hmc e.symm)
  replace hS0 := hS0.kept hK (fun j hj e => hDm (e ▸ hj))
  replace M := M.tr hK (fun _ _ e => e)
  clear hM9 hK
  refine w_nil ?_
  refine xn_then ?_
  refine w_seq ?_
  refine w_seq ?_
  refine w_reg ?_
  refine wl_mv (.tmp 1) (pt k 0) (fun _ => rfl) rfl rfl ?_
  refine wl_nc (.tmp 34) k 0 rfl rfl rfl ?_
  refine wl_un (fun v => Instr.fieldAt 66 v 0) (.tmp 35) (pt k 0) (pt k 0) (fun _ => rfl) rfl (by kernel_rfl) rfl ?_
  refine wl_un (fun v => Instr.fieldAt 64 v 1) (.tmp 36) (pt k 0) (pt k 1) (fun _ => rfl) rfl (by kernel_rfl) rfl ?_
  refine wl_load 62 (.tmp 37) (pt k 1) (.agg #[pp l.p, pp r.p]) rfl rfl (run_row Qk 62 1 2 [pp l.p, pp r.p] rfl Try.underlying62 rfl sz62) rfl ?_
  refine wl_mv (.const (.int .i64 (0))) (.int .i64 (0)) (fun _ => rfl) rfl rfl ?_
  refine w_nil ?_
  refine xn_then ?_
  refine w_block ?_
  refine w_rounds 2 ?_
  refine w_seq ?_
  refine w_reg ?_
  refine wl_bin (fun x y => do eqGuard .lss 3 (.tmp 39) (.const (.int .i64 (2))) x y; binOp .lss 3 x y) (.tmp 39) (.const (.int .i64 (2))) (.int .i64 (0)) (.int .i64 (2)) (.bool true) (fun _ => rfl) rfl rfl (by kernel_rfl) rfl ?_
  refine w_nil ?_
  refine xn_then ?_
  refine w_seq ?_
  refine w_condT rfl ?_
  refine w_skip ?_
  refine xn_then ?_
  refine w_seq ?_
  refine w_block ?_
  refine w_seq ?_
  refine w_reg ?_
  refine wl_mv (.tmp 39) (.int .i64 (0)) (fun _ => rfl) rfl rfl ?_
  refine wl_bin (fun x y => Instr.index 62 x y) (.tmp 38) (.tmp 39) (.agg #[pp l.p, pp r.p]) (.int .i64 (0)) (pp l.p) (fun _ => rfl) rfl rfl (by kernel_rfl) rfl ?_
  refine wl_mv (.tmp 41) (.int .i64 (0)) (fun _ => rfl) rfl rfl ?_
  refine wl_mv (.tmp 42) (pp l.p) (fun _ => rfl) rfl rfl ?_
  refine w_nil ?_
  refine xn_then ?_
  have hsm : Smos [vq (pt c 0), vq (.int .i64 (0)), vq (pt t 0), vq (pp l.p), vq (pt c 0), (fun _ _ => True), vq (pt c 0), vq (pt c 0), vq (pt c 1)] := smos_cons (smo_vq _) (smos_cons (smo_vq _) (smos_cons (smo_vq _) (smos_cons (smo_vq _) (smos_cons (smo_vq _) (smos_cons (fun _ _ _ _ _ => trivial) (smos_cons (smo_vq _) (smos_cons (smo_vq _) (smos_cons (smo_vq _) (smos_nil)))))))))
  have hW0 := M.size
  obtain ⟨G, hGd⟩ : ∃ G, G = (fun (L9 : Nat → Bool) (f9 : Nat → Value) (w9 : World) => (L9 5 = false → Mo w3 w9) ∧ (L9 5 = true → ∃ x, f9 5 = pp x.p ∧ Copd mb (K ++ [(i, c)]) w3 (some c) l x w9)) := ⟨_, rfl⟩
  have hgr : ∀ (i : Nat) (v : Value), i ≠ 5 → ∀ (L9 : Nat → Bool) (f9 : Nat → Value) (a b : World), G L9 f9 a → L9 i = false → Mo a b → G (updB L9 i) (upd f9 i v) b := by
    intro i v h5 L9 f9 a b h _ m
    rw [hGd] at h ⊢
    simp only [updB_ne (Ne.symm h5), upd_ne (Ne.symm h5)]
    exact ⟨fun x => (h.1 x).trans m, fun x => (by obtain ⟨y, e, hp⟩ := h.2 x; exact ⟨y, e, hp.mo m⟩)⟩
  refine w_ogl 9 G [vq (pt c 0), vq (.int .i64 (0)), vq (pt t 0), vq (pp l.p), vq (pt c 0), (fun _ _ => True), vq (pt c 0), vq (pt c 0), vq (pt c 1)] (by kernel_rfl) (by kernel_rfl) (by kernel_rfl) (by kernel_rfl) rfl (fun f => by rw [hGd]; exact ⟨fun _ => (Mo.refl _).drew, (fun e => by cases e)⟩) ?_ ?_
  · refine ea_cons ?_ (ea_cons ?_ (ea_cons ?_ (ea_cons ?_ (ea_cons ?_ (ea_cons ?_ (ea_cons ?_ (ea_cons ?_ (ea_cons ?_ (ea_nil)))))))))
    · exact ol_eq (pt c 0) rfl (hgr 0 _ (by decide)) hsm (fun L9 f wf hG hd K hK => go_run rfl (wo_mv (.tmp 7) (pt c 0) (fun _ => rfl) rfl (hK _ (Mo.refl _))))
    · exact ol_eq (.int .i64 (0)) rfl (hgr 1 _ (by decide)) hsm (fun L9 f wf hG hd K hK => go_run rfl (wo_mv (.tmp 8) (.int .i64 (0)) (fun _ => rfl) rfl (hK _ (Mo.refl _))))
    · exact ol_eq (pt t 0) rfl (hgr 2 _ (by decide)) hsm (fun L9 f wf hG hd K hK => go_run rfl (wo_mv (.tmp 0) (pt t 0) (fun _ => rfl) rfl (hK _ (Mo.refl _))))
    · exact ol_eq (pp l.p) rfl (hgr 3 _ (by decide)) hsm (fun L9 f wf hG hd K hK => go_run rfl (wo_mv (.tmp 9) (pp l.p) (fun _ => rfl) rfl (hK _ (Mo.refl _))))
    · exact ol_eq (pt c 0) rfl (hgr 4 _ (by decide)) hsm (fun L9 f wf hG hd K hK => go_run rfl (wo_mv (.tmp 7) (pt c 0) (fun _ => rfl) rfl (hK _ (Mo.refl _))))
    · refine ⟨fun L9 f wf hG hi hd K9 hK => ?_⟩
      rw [hGd] at hG
      have hmo := hG.1 hi
      refine go_run rfl (wo_callx 36 [(.tmp 45), (.tmp 46), (.tmp 47)] _ [pt t 0, pp l.p, pt c 0] rfl (li3 (hd 2 rfl).2 (hd 3 rfl).2 (hd 4 rfl).2) (fun _ _ => by kernel_rfl) (ihl (some k) (some c) (K ++ [(i, c)]) wf (hS0.mo hmo) hRl (Qt.mo hmo) (hM.mo hmo) (nd_l hnd) hwl (by simp; omega)) (fun e9 w9 ⟨x, he, hp⟩ => ⟨_, he, hK _ w9 ?_ trivial (fun j u hj hr => ?_)⟩))
      · rw [hGd]
        simp only [updB_eq, upd_eq]
        exact ⟨fun e => (by cases e), fun _ => ⟨x, rfl, copd_mo hp hmo⟩⟩
      · match j, hj, hr with
        | 0, _, hr => exact hr
        | 1, _, hr => exact hr
        | 2, _, hr => exact hr
        | 3, _, hr => exact hr
        | 4, _, hr => exact hr
        | 5, _, hr => exact hr
        | 6, _, hr => exact hr
        | 7, _, hr => exact hr
        | 8, _, hr => exact hr
        | j + 9, _, _ => trivial
    · exact ol_eq (pt c 0) rfl (hgr 6 _ (by decide)) hsm (fun L9 f wf hG hd K hK => go_run rfl (wo_nc (.tmp 43) c 0 rfl (hd 0 rfl) (hK _ (Mo.refl _))))
    · exact ol_eq (pt c 0) rfl (hgr 7 _ (by decide)) hsm (fun L9 f wf hG hd K hK => go_run rfl (wo_un (fun v => Instr.fieldAt 66 v 0) (.tmp 49) (pt c 0) (pt c 0) (fun _ => rfl) (hd 6 rfl) (by kernel_rfl) (hK _ (Mo.refl _))))
    · exact ol_eq (pt c 1) rfl (hgr 8 _ (by decide)) hsm (fun L9 f wf hG hd K hK => go_run rfl (wo_un (fun v => Instr.fieldAt 64 v 1) (.tmp 50) (pt c 0) (pt c 1) (fun _ => rfl) (hd 7 rfl) (by kernel_rfl) (hK _ (Mo.refl _))))
  intro L9 f w4 hall hG hR
  rw [hGd] at hG
  obtain ⟨x1, e5, hs0, hL0, hr0, hn0, hM9, hK9⟩ := hG.2 (hall 5 rfl)
  have e1 := hR 1 rfl
  have e8 := hR 8 rfl
  clear hG hall hR hgr hsm hGd
  have hxm0 : ∀ k ∈ x1.ad, k ≠ mb := fun k hk e => by have := (hr0 k hk).1; have := hM.lt; omega
  have hxc0 : ∀ k ∈ x1.ad, k ≠ c := fun k hk e => by have := (hr0 k hk).1; have := Qc.lt; omega
  replace hr0 : ∀ k ∈ x1.ad, w3.heap.size ≤ k := fun k hk => (hr0 k hk).1
  replace hM := hM9
  clear hM9
  replace Qt := hK9.at Qt hmt
  replace Qk := hK9.at Qk hmk
  replace Qc := hK9.at Qc (fun e => hmc e.symm)
  replace hCb := hCb.mk hK9 (fun e => hmc e.symm)
  replace hS0 := hS0.kept hK9 (fun j hj e => hDm (e ▸ hj))
  replace M := M.tr hK9 (fun _ _ e => e)
  clear hK9
  refine wl_bin (fun x y => Instr.indexAt 62 x y) (.tmp 51) (.tmp 44) (pt c 1) (.int .i64 (0)) (pt c 1) (fun _ => rfl) e8 e1 (by kernel_rfl) rfl ?_
  refine wl_st1x 56 (.tmp 52) (.tmp 48) c 1 (pp x1.p) [pt a 0, .pointer none, .pointer none, .int .i64 (s), .int .i64 (i)] [pt a 0, pp x1.p, .pointer none, .int .i64 (s), .int .i64 (i)] Qc rfl rfl rfl e5 rfl sz56 (pp_cells _) (pp_one _) rfl rfl ?_
  intro w5 hT Qn
  replace Qc := Qn
  clear Qn
  replace Qt := hT.other _ _ ne_t_c Qt
  replace Qk := hT.other _ _ ne_k_c Qk
  replace hCb := hT.cb _ hCb
  have hTk : Mk (fun j => j = c) _ _ := (Mk.refl _ _).st hT rfl
  replace hM := hM.mk hTk hmc
  replace hS0 := hS0.kept hTk (fun j hj e => by have := hDl j hj; omega)
  replace hL0 := hL0.kept hTk hxc0
  replace M := M.tr hTk (fun j hj e => by omega)
  clear hT hTk
  refine w_nil ?_
  refine xn_blk ?_
  refine xn_then ?_
  refine w_reg ?_
  refine wl_bin (fun x y => do eqGuard .add 3 (.tmp 39) (.const (.int .i64 (1))) x y; binOp .add 3 x y) (.tmp 39) (.const (.int .i64 (1))) (.int .i64 (0)) (.int .i64 (1)) (.int .i64 (1)) (fun _ => rfl) rfl rfl (by kernel_rfl) rfl ?_
  refine wl_mv (.tmp 53) (.int .i64 (1)) (fun _ => rfl) rfl rfl ?_
  refine w_nil ?_
  refine xn_rounds ?_
  refine w_seq ?_
  refine w_reg ?_
  refine wl_bin (fun x y => do eqGuard .lss 3 (.tmp 39) (.const (.int .i64 (2))) x y; binOp .lss 3 x y) (.tmp 39) (.const (.int .i64 (2))) (.int .i64 (1)) (.int .i64 (2)) (.bool true) (fun _ => rfl) rfl rfl (by kernel_rfl) rfl ?_
  refine w_nil ?_
  refine xn_then ?_
  refine w_seq ?_
  refine w_condT rfl ?_
  refine w_skip ?_
  refine xn_then ?_
  refine w_seq ?_
  refine w_block ?_
  refine w_seq ?_
  refine w_reg ?_
  refine wl_mv (.tmp 39) (.int .i64 (1)) (fun _ => rfl) rfl rfl ?_
  refine wl_bin (fun x y => Instr.index 62 x y) (.tmp 38) (.tmp 39) (.agg #[pp l.p, pp r.p]) (.int .i64 (1)) (pp r.p) (fun _ => rfl) rfl rfl (by kernel_rfl) rfl ?_
  refine wl_mv (.tmp 41) (.int .i64 (1)) (fun _ => rfl) rfl rfl ?_
  refine wl_mv (.tmp 42) (pp r.p) (fun _ => rfl) rfl rfl ?_
  refine w_nil ?_
  refine xn_then ?_
  have hsm : Smos [vq (pt c 0), vq (.int .i64 (1)), vq (pt t 0), vq (pp r.p), vq (pt c 0), (fun _ _ => True), vq (pt c 0), vq (pt c 0), vq (pt c 1)] := smos_cons (smo_vq _) (smos_cons (smo_vq _) (smos_cons (smo_vq _) (smos_cons (smo_vq _) (smos_cons (smo_vq _) (smos_cons (fun _ _ _ _ _ => trivial) (smos_cons (smo_vq _) (smos_cons (smo_vq _) (smos_cons (smo_vq _) (smos_nil)))))))))
  have hW1 := M.size
  obtain ⟨G, hGd⟩ : ∃ G, G = (fun (L9 : Nat → Bool) (f9 : Nat → Value) (w9 : World) => (L9 5 = false → Mo w5 w9) ∧ (L9 5 = true → ∃ x, f9 5 = pp x.p ∧ Copd mb ((K ++ [(i, c)]) ++ pv x1) w5 (some c) r x w9)) := ⟨_, rfl⟩
  have hgr : ∀ (i : Nat) (v : Value), i ≠ 5 → ∀ (L9 : Nat → Bool) (f9 : Nat → Value) (a b : World), G L9 f9 a → L9 i = false → Mo a b → G (updB L9 i) (upd f9 i v) b := by
    intro i v h5 L9 f9 a b h _ m
    rw [hGd] at h ⊢
    simp only [updB_ne (Ne.symm h5), upd_ne (Ne.symm h5)]
    exact ⟨fun x => (h.1 x).trans m, fun x => (by obtain ⟨y, e, hp⟩ := h.2 x; exact ⟨y, e, hp.mo m⟩)⟩
  refine w_ogl 9 G [vq (pt c 0), vq (.int .i64 (1)), vq (pt t 0), vq (pp r.p), vq (pt c 0), (fun _ _ => True), vq (pt c 0), vq (pt c 0), vq (pt c 1)] (by kernel_rfl) (by kernel_rfl) (by kernel_rfl) (by kernel_rfl) rfl (fun f => by rw [hGd]; exact ⟨fun _ => (Mo.refl _).drew, (fun e => by cases e)⟩) ?_ ?_
  · refine ea_cons ?_ (ea_cons ?_ (ea_cons ?_ (ea_cons ?_ (ea_cons ?_ (ea_cons ?_ (ea_cons ?_ (ea_cons ?_ (ea_cons ?_ (ea_nil)))))))))
    · exact ol_eq (pt c 0) rfl (hgr 0 _ (by decide)) hsm (fun L9 f wf hG hd K hK => go_run rfl (wo_mv (.tmp 7) (pt c 0) (fun _ => rfl) rfl (hK _ (Mo.refl _))))
    · exact ol_eq (.int .i64 (1)) rfl (hgr 1 _ (by decide)) hsm (fun L9 f wf hG hd K hK => go_run rfl (wo_mv (.tmp 8) (.int .i64 (1)) (fun _ => rfl) rfl (hK _ (Mo.refl _))))
    · exact ol_eq (pt t 0) rfl (hgr 2 _ (by decide)) hsm (fun L9 f wf hG hd K hK => go_run rfl (wo_mv (.tmp 0) (pt t 0) (fun _ => rfl) rfl (hK _ (Mo.refl _))))
    · exact ol_eq (pp r.p) rfl (hgr 3 _ (by decide)) hsm (fun L9 f wf hG hd K hK => go_run rfl (wo_mv (.tmp 9) (pp r.p) (fun _ => rfl) rfl (hK _ (Mo.refl _))))
    · exact ol_eq (pt c 0) rfl (hgr 4 _ (by decide)) hsm (fun L9 f wf hG hd K hK => go_run rfl (wo_mv (.tmp 7) (pt c 0) (fun _ => rfl) rfl (hK _ (Mo.refl _))))
    · refine ⟨fun L9 f wf hG hi hd K9 hK => ?_⟩
      rw [hGd] at hG
      have hmo := hG.1 hi
      refine go_run rfl (wo_callx 36 [(.tmp 45), (.tmp 46), (.tmp 47)] _ [pt t 0, pp r.p, pt c 0] rfl (li3 (hd 2 rfl).2 (hd 3 rfl).2 (hd 4 rfl).2) (fun _ _ => by kernel_rfl) (ihr (some k) (some c) ((K ++ [(i, c)]) ++ pv x1) wf (hS0.mo hmo) hRr (Qt.mo hmo) (hM.mo hmo) (nd_r hnd hs0) hwr (by simp [pv_len]; have := hs0.len; omega)) (fun e9 w9 ⟨x, he, hp⟩ => ⟨_, he, hK _ w9 ?_ trivial (fun j u hj hr => ?_)⟩))
      · rw [hGd]
        simp only [updB_eq, upd_eq]
        exact ⟨fun e => (by cases e), fun _ => ⟨x, rfl, copd_mo hp hmo⟩⟩
      · match j, hj, hr with
        | 0, _, hr => exact hr
        | 1, _, hr => exact hr
        | 2, _, hr => exact hr
        | 3, _, hr => exact hr
        | 4, _, hr => exact hr
        | 5, _, hr => exact hr
        | 6, _, hr => exact hr
        | 7, _, hr => exact hr
        | 8, _, hr => exact hr
        | j + 9, _, _ => trivial
    · exact ol_eq (pt c 0) rfl (hgr 6 _ (by decide)) hsm (fun L9 f wf hG hd K hK => go_run rfl (wo_nc (.tmp 43) c 0 rfl (hd 0 rfl) (hK _ (Mo.refl _))))
    · exact ol_eq (pt c 0) rfl (hgr 7 _ (by decide)) hsm (fun L9 f wf hG hd K hK => go_run rfl (wo_un (fun v => Instr.fieldAt 66 v 0) (.tmp 49) (pt c 0) (pt c 0) (fun _ => rfl) (hd 6 rfl) (by kernel_rfl) (hK _ (Mo.refl _))))
    · exact ol_eq (pt c 1) rfl (hgr 8 _ (by decide)) hsm (fun L9 f wf hG hd K hK => go_run rfl (wo_un (fun v => Instr.fieldAt 64 v 1) (.tmp 50) (pt c 0) (pt c 1) (fun _ => rfl) (hd 7 rfl) (by kernel_rfl) (hK _ (Mo.refl _))))
  intro L9 f w6 hall hG hR
  rw [hGd] at hG
  obtain ⟨x2, e5, hs1, hL1, hr1, hn1, hM9, hK9⟩ := hG.2 (hall 5 rfl)
  have e1 := hR 1 rfl
  have e8 := hR 8 rfl
  clear hG hall hR hgr hsm hGd
  have hxm1 : ∀ k ∈ x2.ad, k ≠ mb := fun k hk e => by have := (hr1 k hk).1; have := hM.lt; omega
  have hxc1 : ∀ k ∈ x2.ad, k ≠ c := fun k hk e => by have := (hr1 k hk).1; have := Qc.lt; omega
  replace hr1 : ∀ k ∈ x2.ad, w5.heap.size ≤ k := fun k hk => (hr1 k hk).1
  have hdj : ∀ k ∈ x1.ad, k ∉ x2.ad := fun k h1 h2 => by have := lay_lt hL0 k h1; have := hr1 k h2; omega
  replace hM := hM9
  clear hM9
  replace Qt := hK9.at Qt hmt
  replace Qk := hK9.at Qk hmk
  replace Qc := hK9.at Qc (fun e => hmc e.symm)
  replace hCb := hCb.mk hK9 (fun e => hmc e.symm)
  replace hS0 := hS0.kept hK9 (fun j hj e => hDm (e ▸ hj))
  replace hL0 := hL0.kept hK9 hxm0
  replace M := M.tr hK9 (fun _ _ e => e)
  clear hK9
  refine wl_bin (fun x y => Instr.indexAt 62 x y) (.tmp 51) (.tmp 44) (pt c 1) (.int .i64 (1)) (pt c 2) (fun _ => rfl) e8 e1 (by kernel_rfl) rfl ?_
  refine wl_st1x 56 (.tmp 52) (.tmp 48) c 2 (pp x2.p) [pt a 0, pp x1.p, .pointer none, .int .i64 (s), .int .i64 (i)] [pt a 0, pp x1.p, pp x2.p, .int .i64 (s), .int .i64 (i)] Qc rfl rfl rfl e5 rfl sz56 (pp_cells _) (pp_one _) rfl rfl ?_
  intro w7 hT Qn
  replace Qc := Qn
  clear Qn
  replace Qt := hT.other _ _ ne_t_c Qt
  replace Qk := hT.other _ _ ne_k_c Qk
  replace hCb := hT.cb _ hCb
  have hTk : Mk (fun j => j = c) _ _ := (Mk.refl _ _).st hT rfl
  replace hM := hM.mk hTk hmc
  replace hS0 := hS0.kept hTk (fun j hj e => by have := hDl j hj; omega)
  replace hL0 := hL0.kept hTk hxc0
  replace hL1 := hL1.kept hTk hxc1
  replace M := M.tr hTk (fun j hj e => by omega)
  clear hT hTk
  refine w_nil ?_
  refine xn_blk ?_
  refine xn_then ?_
  refine w_reg ?_
  refine wl_bin (fun x y => do eqGuard .add 3 (.tmp 39) (.const (.int .i64 (1))) x y; binOp .add 3 x y) (.tmp 39) (.const (.int .i64 (1))) (.int .i64 (1)) (.int .i64 (1)) (.int .i64 (2)) (fun _ => rfl) rfl rfl (by kernel_rfl) rfl ?_
  refine wl_mv (.tmp 53) (.int .i64 (2)) (fun _ => rfl) rfl rfl ?_
  refine w_nil ?_
  refine xn_rounds ?_
  refine w_seq ?_
  refine w_reg ?_
  refine wl_bin (fun x y => do eqGuard .lss 3 (.tmp 39) (.const (.int .i64 (2))) x y; binOp .lss 3 x y) (.tmp 39) (.const (.int .i64 (2))) (.int .i64 (2)) (.int .i64 (2)) (.bool false) (fun _ => rfl) rfl rfl (by kernel_rfl) rfl ?_
  refine w_nil ?_
  refine xn_then ?_
  refine w_seq ?_
  refine w_condF rfl ?_
  refine w_exit ?_
  refine xx_then ?_
  refine xx_then ?_
  refine xx_blk ?_
  refine xn_then ?_
  refine w_seq ?_
  refine w_reg ?_
  refine wl_mv (.tmp 7) (pt c 0) (fun _ => rfl) rfl rfl ?_
  refine wl_mv (.tmp 54) (pt c 0) (fun _ => rfl) rfl rfl ?_
  refine w_nil ?_
  refine xn_then ?_
  refine w_ret ?_
  exact w_ret1 _ (pt c 0) rfl rfl ⟨.n c i s x1 x2, rfl, ⟨rfl, rfl, hs0, hs1⟩, ⟨Qc, hCb, hL0, hL1⟩, fun k hk => (by
      simp only [T.ad, List.mem_cons, List.mem_append] at hk
      rcases hk with rfl | hk | hk
      · exact ⟨N_c, Qc.lt⟩
      · exact ⟨Nat.le_trans hW0 (hr0 k hk), lay_lt hL0 k hk⟩
      · exact ⟨Nat.le_trans hW1 (hr1 k hk), lay_lt hL1 k hk⟩), (by
      show (c :: (x1.ad ++ x2.ad)).Nodup
      rw [List.nodup_cons, List.nodup_append]
      refine ⟨fun q => ?_, hn0, hn1, fun a ha b hb e => hdj a ha (e ▸ hb)⟩
      rcases List.mem_append.1 q with q | q
      · exact hxc0 c q rfl
      · exact hxc1 c q rfl), (by
      rw [show K ++ pv (T.n c i s x1 x2) = ((K ++ [(i, c)]) ++ pv x1) ++ pv x2 by simp [pv]]; exact hM), M⟩
theorem cop_n (hDm : ¬ D0 mb) (hmt : ¬ t = mb) : ∀ (tr : T), ∀ (u0 above : Option Nat) (K : List (Int × Nat)) (w : World), HS D0 w t0 mb0 R0 root0 lk0 → Rep R0 u0 tr → At w t [pp rt, .map (some mb), .int .i64 lkt] → OM w mb (adr K) K.length → (K.map (·.1) ++ tr.ids).Nodup → (∀ i ∈ tr.ids, (Lit.int .i64 i).wf = true) → K.length + tr.kv.length ≤ 2000 → Calls Try.prog 36 #[pt t 0, pp tr.p, pp above] w fun e w' => ∃ tr', e = .returned (pp tr'.p) ∧ Copd mb K w above tr tr' w' := by
  intro tr
  induction tr with
  | e => intro u0 above K w _ _ _ hM _ _ _; exact cop_e hM
  | n k i s l r ihl ihr =>
    intro u0 above K w hS hR Qt hM hnd hwf hlen
    cases above with
    | none => exact cop_n0 hS hDm (fun j hj => hS.lt hj) hmt hR Qt hM hnd hwf hlen ihl ihr
    | some a => exact cop_n1 hS hDm (fun j hj => hS.lt hj) hmt hR Qt hM hnd hwf hlen ihl ihr
end
theorem wf_id {i : Int} (h : 1 ≤ i ∧ i ≤ 9007199254740992) : (Lit.int .i64 i).wf = true := by
  simp [Lit.wf, IntKind.min, IntKind.max, IntKind.signed, IntKind.bits]; omega
section
variable {w : World}
theorem clone_f {D0 : Nat → Prop} {t mb : Nat} {tr : T} {lk : Int} (hF : FT D0 w t mb tr lk) : Calls Try.prog 24 #[pt t 0] w fun e w' => ∃ c mc tr', e = .returned (pt c 0) ∧ FT (fun k => k = c ∨ k ∈ tr'.ad) w' c mc tr' lk ∧ (∀ j, (j = c ∨ j ∈ tr'.ad) ∨ j = mc → w.heap.size ≤ j ∧ j < w'.heap.size) ∧ Sim tr tr' ∧ Mo w w' := by
  obtain ⟨R0, root0, hS0, hC0, hR, hn0⟩ := hF.ts
  have hC9 : root0 = tr.p := hC0
  subst hC9
  have Qt := hS0.tr
  have hS0l : ∀ j, D0 j → j < w.heap.size := fun j hj => hS0.lt hj
  refine w_enter 25 Try.func24 Try.ntmps24 rfl rfl ?_
  have M : Mo w w := Mo.refl _
  refine w_seq ?_
  refine w_reg ?_
  refine wl_mv (.const (.pointer none)) (pp none) (fun _ => rfl) rfl rfl ?_
  refine w_nil ?_
  refine xn_then ?_
  refine w_seq ?_
  refine w_seq ?_
  refine w_reg ?_
  refine wl_mv (.tmp 0) (pt t 0) (fun _ => rfl) rfl rfl ?_
  refine wl_call 29 [(.tmp 4)] _ [pt t 0] (.bool true) rfl rfl (fun _ _ => by kernel_rfl) (made_n hS0) rfl ?_
  intro w1 hq
  replace Qt := Qt.mo hq
  replace hS0 := hS0.mo hq
  replace M := M.trans hq
  clear hq
  refine wl_un (fun v => Op.unary .not v) (.tmp 5) (.bool true) (.bool false) (fun _ => rfl) rfl (by kernel_rfl) rfl ?_
  refine w_nil ?_
  refine xn_then ?_
  refine w_condF rfl ?_
  refine w_skip ?_
  refine xn_then ?_
  refine w_seq ?_
  refine w_reg ?_
  refine wl_callx 8 [] _ [] rfl rfl (fun _ _ => by kernel_rfl) (new_n _) rfl ?_
  rintro _ w2 ⟨c, mc, Dc, rfl, hFc, hDc, hmc, hq⟩
  refine ⟨_, rfl, ?_⟩
  have hszN := M.size
  replace Qt := Qt.mo hq
  replace hS0 := hS0.mo hq
  replace M := M.trans hq
  clear hq
  obtain ⟨Rc, rootc, hSc, hCc, _, _⟩ := hFc.ts
  have hCc0 : rootc = none := hCc
  subst hCc0
  have Qc := hSc.tr
  have hM : OM _ mc (adr []) ([] : List (Int × Nat)).length := hFc.om
  have hnb : ¬ c = mc := fun e => hSc.nb (e ▸ hSc.dt)
  have hNc : w.heap.size ≤ c := Nat.le_trans hszN (hDc c hSc.dt)
  have hNm : w.heap.size ≤ mc := Nat.le_trans hszN hmc
  clear hSc hCc hFc hDc hmc
  have ne_t_c : t ≠ c := by have := hS0l t hS0.dt; omega
  refine wl_mv (.tmp 7) (pt c 0) (fun _ => rfl) rfl rfl ?_
  refine w_nil ?_
  refine xn_then ?_
  refine w_seq ?_
  refine w_reg ?_
  refine wl_mv (.tmp 3) (pt c 0) (fun _ => rfl) rfl rfl ?_
  refine wl_mv (.tmp 0) (pt t 0) (fun _ => rfl) rfl rfl ?_
  refine wl_nc (.tmp 9) t 0 rfl rfl rfl ?_
  refine wl_un (fun v => Instr.fieldAt 59 v 2) (.tmp 10) (pt t 0) (pt t 2) (fun _ => rfl) rfl (by kernel_rfl) rfl ?_
  refine wl_load 2 (.tmp 11) (pt t 2) (.int .i64 lk) rfl rfl (run_one Qt 2 2 rfl Try.underlying2 rfl) rfl ?_
  refine wl_nc (.tmp 8) c 0 rfl rfl rfl ?_
  refine wl_un (fun v => Instr.fieldAt 59 v 2) (.tmp 13) (pt c 0) (pt c 2) (fun _ => rfl) rfl (by kernel_rfl) rfl ?_
  refine wl_st1x 2 (.tmp 14) (.tmp 12) c 2 (.int .i64 lk) [pp none, .map (some mc), .int .i64 0] [pp none, .map (some mc), .int .i64 lk] Qc rfl rfl rfl rfl rfl sz2 rfl rfl rfl rfl ?_
  intro w3 hT Qn
  replace Qc := Qn
  clear Qn
  replace Qt := hT.other _ _ ne_t_c Qt
  have hTk : Mk (fun j => j = c) _ _ := (Mk.refl _ _).st hT rfl
  replace hM := hM.mk hTk (fun e => hnb e.symm)
  replace hS0 := hS0.kept hTk (fun j hj e => by have := hS0l j hj; omega)
  replace M := hTk.mo M (fun _ e => e ▸ hNc)
  clear hT hTk
  refine w_nil ?_
  refine xn_then ?_
  refine w_seq ?_
  refine w_reg ?_
  refine wl_mv (.tmp 3) (pt c 0) (fun _ => rfl) rfl rfl ?_
  refine wl_mv (.tmp 3) (pt c 0) (fun _ => rfl) rfl rfl ?_
  refine wl_mv (.tmp 0) (pt t 0) (fun _ => rfl) rfl rfl ?_
  refine wl_nc (.tmp 17) t 0 rfl rfl rfl ?_
  refine wl_un (fun v => Instr.fieldAt 59 v 0) (.tmp 18) (pt t 0) (pt t 0) (fun _ => rfl) rfl (by kernel_rfl) rfl ?_
  refine wl_load 56 (.tmp 19) (pt t 0) (pp tr.p) rfl rfl (run_one Qt 56 0 rfl Try.underlying56 rfl) rfl ?_
  refine wl_callx 36 [(.tmp 16), (.tmp 20), (.const (.pointer none))] _ [pt c 0, pp tr.p, pp none] rfl rfl (fun _ _ => by kernel_rfl) (cop_n (t := c) (mb := mc) (fun q => by have := hS0l _ q; omega) hnb tr none none [] _ hS0 hR Qc hM (by simpa using hF.nd) (fun i hi => wf_id (hF.rg i hi)) (by have := hF.le; have := tr.kv_len; simp; omega)) rfl ?_
  have hmcl := hM.lt
  have hcl := Qc.lt
  rintro _ w4 ⟨tr2, rfl, hsm, hLay, hrg, hnd2, hM2, hK2⟩
  refine ⟨_, rfl, ?_⟩
  replace Qc := hK2.at Qc hnb
  replace Qt := hK2.at Qt (fun e => by have := hS0l t hS0.dt; omega)
  replace M := hK2.mo M (fun _ e => e ▸ hNm)
  clear hM hK2
  refine wl_nc (.tmp 15) c 0 rfl rfl rfl ?_
  refine wl_un (fun v => Instr.fieldAt 59 v 0) (.tmp 22) (pt c 0) (pt c 0) (fun _ => rfl) rfl (by kernel_rfl) rfl ?_
  refine wl_st1x 56 (.tmp 23) (.tmp 21) c 0 (pp tr2.p) [pp none, .map (some mc), .int .i64 lk] [pp tr2.p, .map (some mc), .int .i64 lk] Qc rfl rfl rfl rfl rfl sz56 (pp_cells _) (pp_one _) rfl rfl ?_
  intro w5 hT Qn
  replace Qc := Qn
  clear Qn
  replace Qt := hT.other _ _ ne_t_c Qt
  have hTk : Mk (fun j => j = c) _ _ := (Mk.refl _ _).st hT rfl
  replace hLay := hLay.kept hTk (fun k hk e => by have := (hrg k hk).1; omega)
  replace hM2 := hM2.mk hTk (fun e => hnb e.symm)
  replace M := hTk.mo M (fun _ e => e ▸ hNc)
  clear hT hTk
  refine w_nil ?_
  refine xn_then ?_
  refine w_seq ?_
  refine w_reg ?_
  refine wl_mv (.tmp 3) (pt c 0) (fun _ => rfl) rfl rfl ?_
  refine wl_mv (.tmp 24) (pt c 0) (fun _ => rfl) rfl rfl ?_
  refine w_nil ?_
  refine xn_then ?_
  refine w_ret ?_
  have hids := hsm.ids
  have hkvl := hsm.len
  have hc9 : c ∉ tr2.ad := fun q => by have := (hrg c q).1; omega
  have hm9 : mc ∉ tr2.ad := fun q => by have := (hrg mc q).1; omega
  rw [List.nil_append, adr_pv (by rw [hids]; exact hF.nd), pv_len] at hM2
  have hF2 := lay_ft Qc hLay hnd2 hc9 (fun e => hnb e.symm) hm9 hM2 (hsm.ok hF.ok) (by rw [hids]; exact hF.nd) (by rw [hids]; exact hF.rg) (by rw [hsm.sz]; exact hF.le) hF.l0
  have hnew : ∀ j, (j = c ∨ j ∈ tr2.ad) ∨ j = mc → w.heap.size ≤ j := fun j e => by
    rcases e with (rfl | e) | rfl
    · exact hNc
    · have := (hrg j e).1; omega
    · exact hNm
  exact w_ret1 _ (pt c 0) rfl rfl ⟨c, mc, tr2, rfl, hF2, fun j e => ⟨hnew j e, by rcases e with (rfl | e) | rfl; exact Qc.lt; exact lay_lt hLay j e; exact hM2.lt⟩, hsm, M⟩
end
end Go.Proofs.Ytbmbldloeblbbaa
