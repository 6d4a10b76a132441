/-
  ids, All.
-/
import Derived.Test.YtbmbldloeblbbaaIo
import Derived.Test.YtbmbldloeblbbaaGt
namespace Go.Proofs.Ytbmbldloeblbbaa
open Go.RowKit
theorem mf1 (g : FuncId) (ρ : Operand → Value) (x : Operand) (v : Value) (hx : ρ x = v) (dst : Option Tmp) (type : TypeId) (pos : String) (after : Array Edge) (guard : Option (Nat × Bool)) (w : World) : (execOp ρ { dst, op := .makeFunc (.func g) #[x] #[], type, pos, after, guard }).run Try.prog w = .ok (.value (.func (.func g) #[v] #[])) w := by
  subst hx; simp [execOp, Instr.makeFunc]
theorem mf2 (g : FuncId) (ρ : Operand → Value) (x : Operand) (v : Value) (hx : ρ x = v) (dst : Option Tmp) (type : TypeId) (pos : String) (after : Array Edge) (guard : Option (Nat × Bool)) (w : World) : (execOp ρ { dst, op := .makeFunc (.func g) #[] #[x], type, pos, after, guard }).run Try.prog w = .ok (.value (.func (.func g) #[] #[v])) w := by
  subst hx; simp [execOp, Instr.makeFunc]
theorem own_st2 {w w' : World} {N k : Nat} {v : Value} {n : Nat} {xs : List Value} (h : w.ownsRow N 2 1 v n xs) (m : St2 k w w') (hne : v.ownBlock ≠ some k) : w'.ownsRow N 2 1 v n xs :=
  h.kept (row := some k) ⟨m.os, m.tape, m.output, Nat.le_of_eq m.size.symm, fun j _ hj => m.block j (fun e => hj (by rw [e]))⟩ (Or.inr hne)
theorem own_grown {w w' : World} {row : Option Nat} {N : Nat} {v : Value} {n : Nat} {xs : List Value} (h : w.ownsRow N 2 1 v n xs) (hg : w.grownBy w' row) (hr : ∀ r, row = some r → ∃ o : Obj, w.heap[r]? = some o ∧ o.isCells = false) : w'.ownsRow N 2 1 v n xs :=
  h.kept hg (by
    rcases h.2 with ⟨rfl, _⟩ | ⟨g, cap, cur, rfl, _, hg0, _⟩
    · exact Or.inl rfl
    · refine Or.inr (fun e => ?_)
      obtain ⟨o, ho, hc⟩ := hr g e.symm
      rw [hg0] at ho; cases ho; cases hc)
theorem own_si {w : World} {N : Nat} {v : Value} {n : Nat} {L : List Int} (h : w.ownsRow N 2 1 v n (L.map (fun i => Value.int .i64 i))) : ∃ p cap, v = .slice p L.length cap ∧ SI w p L ∧ (∀ k, pb p k → N ≤ k ∧ k < w.heap.size) := by
  have hl : L.length = n := by have := h.1; simpa using this
  have h0 := h
  rcases h.2 with ⟨rfl, hn⟩ | ⟨g, cap, cur, rfl, hb, hg, _, _, _, _⟩
  · have : L = [] := List.length_eq_zero_iff.1 (by omega)
    subst this
    exact ⟨none, 0, rfl, fun _ _ e => (by cases e), fun k ⟨_, e⟩ => by cases e⟩
  · refine ⟨some ⟨g, 0, none⟩, cap, by rw [hl], fun i x e => ⟨g, 0, rfl, (h0.lt g rfl).2, ?_⟩, fun k ⟨_, e⟩ => by cases e; exact h0.lt g rfl⟩
    have hi := (List.getElem?_eq_some_iff.1 e).1
    rw [Nat.zero_add, h0.cellAt i (by omega)]; simp [e]
theorem keeps_app {B : Nat} {W w1 w2 : World} {v : Value} {N n k : Nat} {xs : List Value} {u : Value} {us : List Value} (hown : W.ownsRow N 2 1 v n xs) (h : AppW v W w1) (s : St2 k w1 w2) (Q : At W k (u :: us)) : KeepsFrom B W w2 :=
  ⟨by rw [s.size]; exact h.size, fun j o _ hj ho => by
    have hlt := (Array.getElem?_eq_some_iff.1 hj).1
    have hjk : j ≠ k := R.dk_ne hj ho Q
    have hjv : v.ownBlock ≠ some j := fun e => by
      rcases hown.2 with ⟨rfl, _⟩ | ⟨g, cap, cur, rfl, _, hg0, _⟩
      · cases e
      · cases e; rw [hg0] at hj; cases hj; cases ho
    exact (s.block j hjk).trans ((h.block j hlt hjv).trans hj)⟩
section
variable {o : Oper} {n : Nat} {l : List (Nat × Value)} {w : World} {ops : Array Oper} {rest : List Oper} {Q : Exit → Act → World → Prop}
theorem wl_make26 (x y : Operand) (N c : Nat) (ho : o.op = .makeSlice 26 x y) (hx : evl n l x = .int .i64 0) (hy : evl n l y = .int .i64 (c : Int)) (hc : c ≤ 1000000000) (hN : N ≤ w.heap.size) (hg : wnt n l ops o = true)
    (hk : ∀ k w', w.heap.size = k → w'.heap.size = k + 1 → Mo w w' → w'.ownsRow N 2 1 (.slice (some ⟨k, 0, none⟩) 0 c) 0 [] → WL Try.prog ops Q rest n (ext l o.dst (.slice (some ⟨k, 0, none⟩) 0 c)) w') : WL Try.prog ops Q (o :: rest) n l w := by
  obtain ⟨i, hi, hz, hs, hby⟩ := inf2
  have hr := run_make (P := Try.prog) w 26 2 i _ Try.underlying26 hi hz .i64 .i64 0 c (Int.le_refl _) (by omega) (by rw [hby]; omega) (by omega)
  simp only [Int.toNat_zero, Int.toNat_natCast, hs] at hr
  refine ⟨l_step hg (o_val (.slice (some ⟨w.heap.size, 0, none⟩) 0 c) (w' := w.alloc (.cells (madeCells (Value.int .i64 0).cells (c * 1)) 2)) (by simp only [execOp, ho, hx, hy]; simp [hr]) (hk _ _ rfl (by simp) ((Mo.refl _).alloc _ _) (World.ownsRow_made w _ c hN (by unfold maxLen; omega) (size_madeCells _ _))).out)⟩
end
namespace R
theorem ids_n {t mb : Nat} {D : Nat → Prop} {w : World} {lk : Int} {tr : T} (hF : FT D w t mb tr lk) : Calls Try.prog 31 #[pt t 0] w fun e w' => ∃ p cap, e = .returned (.slice p tr.ids.length cap) ∧ SI w' p tr.ids ∧ (∀ k, pb p k → w.heap.size ≤ k ∧ k < w'.heap.size) ∧ Mo w w' := by
  obtain ⟨R, root, hS, hC, hR, hn⟩ := hF.ts
  have hC0 : root = tr.p := hC
  subst hC0
  have hM := hF.om
  have hnd := hF.nd
  have hle : tr.kv.length ≤ 1024 := by have := hF.le; have := T.kv_len tr; omega
  obtain ⟨KV, hKV⟩ := lift_list tr.kv (rep_rx hR)
  have hkl : KV.length = tr.kv.length := by rw [← hKV]; simp
  have hDlt : ∀ j, D j → j < w.heap.size := fun j hj => hS.lt hj
  refine calls_of (m := 9) (w_enter 22 Try.func31 Try.ntmps31 rfl rfl ?_)
  have M : Mo w w := Mo.refl _
  refine w_seq ?_
  refine w_reg ?_
  refine wl_mv (.const (.slice none 0 0)) (.slice none 0 0) (fun _ => rfl) rfl rfl ?_
  refine w_nil ?_
  refine xn_then ?_
  refine w_seq ?_
  refine w_seq ?_
  refine w_reg ?_
  refine wl_mv (.tmp 0) (pt t 0) (fun _ => rfl) rfl rfl ?_
  refine wl_call 29 [(.tmp 5)] _ [pt t 0] (.bool true) rfl rfl (fun _ _ => by kernel_rfl) (made_n hS) rfl ?_
  intro w1 hq
  replace hS := hS.mo hq
  replace hM := hM.mo hq
  replace M := M.trans hq
  clear hq
  refine wl_un (fun v => Op.unary .not v) (.tmp 6) (.bool true) (.bool false) (fun _ => rfl) rfl (by kernel_rfl) rfl ?_
  refine w_nil ?_
  refine xn_then ?_
  refine w_condF rfl ?_
  refine w_skip ?_
  refine xn_then ?_
  refine w_seq ?_
  refine w_reg ?_
  refine wl_mv (.tmp 0) (pt t 0) (fun _ => rfl) rfl rfl ?_
  refine wl_call 15 [(.tmp 8)] _ [pt t 0] (.int .i64 ((tr.kv.length : Int))) rfl rfl (fun _ _ => by kernel_rfl) (len_n hS hM) rfl ?_
  intro w2 hq
  replace hS := hS.mo hq
  replace hM := hM.mo hq
  replace M := M.trans hq
  clear hq
  refine wl_make26 (.const (.int .i64 (0))) (.tmp 9) w.heap.size tr.kv.length rfl rfl rfl (by omega) M.size rfl ?_
  intro g0 w3 hk hz hq hown
  replace hS := hS.mo hq
  replace hM := hM.mo hq
  replace M := M.trans hq
  clear hk hz hq
  clear hM
  refine wl_alloc 26 #[.slice none 0 0] rfl (fun _ => by kernel_rfl) rfl ?_
  intro k1 w4 hk hz hq Q1
  have on_k1 : (Value.slice (some ⟨g0, 0, none⟩) 0 tr.kv.length).ownBlock ≠ some k1 := fun e => by have := (hown.lt _ e).2; omega
  have N_k1 : w.heap.size ≤ k1 := by have := M.size; omega
  replace hown := own_mo hown hq
  replace hS := hS.mo hq
  replace M := M.trans hq
  clear hk hz hq
  have nd_k1 : ¬ D k1 := fun e => by have := hDlt _ e; omega
  refine wl_st1x 26 (.tmp 3) (.tmp 10) k1 0 (.slice (some ⟨g0, 0, none⟩) 0 tr.kv.length) [.slice none 0 0] [.slice (some ⟨g0, 0, none⟩) 0 tr.kv.length] Q1 rfl rfl rfl rfl rfl sz26 rfl rfl rfl rfl ?_
  intro w5 hT Qn
  replace Q1 := Qn
  clear Qn
  replace hS := hS.kd (fun j hj => hT.block j (fun e => nd_k1 (e ▸ hj)))
  replace hown := own_st2 hown hT on_k1
  replace M := (Mk.refl (fun j => j = k1) _ |>.st hT rfl).mo M (fun _ e => e ▸ N_k1)
  clear hT
  refine w_nil ?_
  refine xn_then ?_
  refine w_seq ?_
  refine w_seq ?_
  refine w_reg ?_
  refine wl_mv (.tmp 0) (pt t 0) (fun _ => rfl) rfl rfl ?_
  refine wl_val (.func (.func 42) #[pt t 0] #[]) (mf1 42 _ _ _ (by exact rfl) _ _ _ _ _ _) rfl ?_
  refine w_nil ?_
  refine xn_then ?_
  refine w_block ?_
  have hNR : w.heap.size ≤ w5.heap.size := M.size
  refine w_rf 42 #[pt t 0] #[] rfl (fun _ _ => by kernel_rfl) (fun x : Rx R => #[pt x.1.2 0]) (Kd D) (fun xs => xs = KV) (fun pre => ∃ i : Nat, 0 < i ∧ i ≤ KV.length ∧ pre = KV.take i) KV.length (io_seq hS hC hR hn hnd hKV) Kd.tr (fun W l o o' hl _ _ _ k hk => World.putObj_heap_other (by have := hDlt k hk; omega)) (fun _ => rfl) (fun pre W => ∃ v, At W k1 [v] ∧ W.ownsRow w.heap.size 2 1 v pre.length (pre.map (fun x : Rx R => Value.int .i64 x.1.1)) ∧ v.ownBlock ≠ some k1 ∧ HS D W t mb R tr.p lk ∧ Mo w W) (fun _ _ _ => False) ?hI (fun _ _ _ _ _ h _ _ _ => h) ⟨_, Q1, hown, on_k1, hS, M⟩ _ ?lx (fun x => frps1 13 _) ?assign ?body ?done (fun _ _ _ _ _ _ h _ => h.elim)
  case hI => exact fun s9 W W' row ⟨v, h1, h2, h3, h4, h5⟩ hg hf hr => ⟨v, h1.grown hg (fun r e => (hr r e).2), own_grown h2 hg (fun r e => (hr r e).2), h3, h4.grown hg (fun r e => (hr r e).2), own_moF hNR s9 W W' row h5 hg hf hr⟩
  case assign =>
    intro lp x W K hK
    refine w_reg ?_
    refine wl_mv (.tmp 13) (pt x.1.2 0) (fun _ => rfl) rfl rfl ?_
    refine w_nil ?_
    exact hK
  case body =>
    rintro lp pre x W ⟨v, Q1, hown, on_k1, hS, M⟩ hlen
    obtain ⟨u9, l9, r9, s9, hrx⟩ := x.2
    have hAr := hS.rc _ _ hrx
    have hdx := hS.dk hrx
    have hvD : ∀ j, D j → v.ownBlock ≠ some j := fun j hj e => by have := (hown.lt j e).1; have := hDlt j hj; omega
    have hvb : ∀ k, v.ownBlock = some k → k < W.heap.size := fun k e => (hown.lt k e).2
    have hpl : pre.length < 1025 := by omega
    refine w_block ?_
    have hsm : Smos [vq v, vq (pt x.1.2 0), vq (pt x.1.2 0), vq (pt x.1.2 4), vq (.int .i64 x.1.1), fun u w9 => ∃ k, u = .slice (some ⟨k, 0, none⟩) 1 1 ∧ W.heap.size ≤ k ∧ At w9 k [.int .i64 x.1.1], fun u w9 => w9.ownsRow w.heap.size 2 1 u (pre.length + 1) ((pre.map (fun x : Rx R => Value.int .i64 x.1.1)) ++ [.int .i64 x.1.1]) ∧ u.ownBlock ≠ some k1] := smos_cons (smo_vq _) (smos_cons (smo_vq _) (smos_cons (smo_vq _) (smos_cons (smo_vq _) (smos_cons (smo_vq _) (smos_cons (fun u a b ⟨k, h1, h2, h3⟩ m => ⟨k, h1, h2, h3.mo m⟩) (smos_cons (fun u a b h m => ⟨own_mo h.1 m, h.2⟩) (smos_nil)))))))
    have hgr : ∀ a b : World, (fun w9 => AppW v W w9 ∧ w9.ownsRow w.heap.size 2 1 v pre.length (pre.map (fun x : Rx R => Value.int .i64 x.1.1))) a → Mo a b → (fun w9 => AppW v W w9 ∧ w9.ownsRow w.heap.size 2 1 v pre.length (pre.map (fun x : Rx R => Value.int .i64 x.1.1))) b := fun a b h m => ⟨h.1.grow m, own_mo h.2 m⟩
    refine w_ogc 7 (fun w9 => AppW v W w9 ∧ w9.ownsRow w.heap.size 2 1 v pre.length (pre.map (fun x : Rx R => Value.int .i64 x.1.1))) [vq v, vq (pt x.1.2 0), vq (pt x.1.2 0), vq (pt x.1.2 4), vq (.int .i64 x.1.1), fun u w9 => ∃ k, u = .slice (some ⟨k, 0, none⟩) 1 1 ∧ W.heap.size ≤ k ∧ At w9 k [.int .i64 x.1.1], fun u w9 => w9.ownsRow w.heap.size 2 1 u (pre.length + 1) ((pre.map (fun x : Rx R => Value.int .i64 x.1.1)) ++ [.int .i64 x.1.1]) ∧ u.ownBlock ≠ some k1] [] (by kernel_rfl) (by kernel_rfl) (by kernel_rfl) (by kernel_rfl) rfl (by kernel_rfl) (by kernel_rfl) (by kernel_rfl) latec_nil ⟨AppW.refl _ _, own_mo hown ((Mo.refl _).drew)⟩ ?_ ?_
    · refine ea_cons ?_ (ea_cons ?_ (ea_cons ?_ (ea_cons ?_ (ea_cons ?_ (ea_cons ?_ (ea_cons ?_ (ea_nil)))))))
      · exact oc_eq v rfl hgr hsm (fun f wf hG hd K hK => have Q1 := hG.1.at Q1 on_k1; go_run rfl (wo_load 26 (.tmp 3) (pt k1 0) v rfl rfl (run_one Q1 26 0 rfl Try.underlying26 rfl) (hK _ (Mo.refl _))))
      · exact oc_eq (pt x.1.2 0) rfl hgr hsm (fun f wf hG hd K hK => go_run rfl (wo_mv (.tmp 4) (pt x.1.2 0) (fun _ => rfl) rfl (hK _ (Mo.refl _))))
      · exact oc_eq (pt x.1.2 0) rfl hgr hsm (fun f wf hG hd K hK => go_run rfl (wo_nc (.tmp 15) x.1.2 0 rfl (hd 1 rfl) (hK _ (Mo.refl _))))
      · exact oc_eq (pt x.1.2 4) rfl hgr hsm (fun f wf hG hd K hK => go_run rfl (wo_un (fun v => Instr.fieldAt 66 v 1) (.tmp 16) (pt x.1.2 0) (pt x.1.2 4) (fun _ => rfl) (hd 2 rfl) (by kernel_rfl) (hK _ (Mo.refl _))))
      · exact oc_eq (.int .i64 x.1.1) rfl hgr hsm (fun f wf hG hd K hK => have hA9 := hG.1.at hAr (hvD _ hdx); go_run rfl (wo_load 2 (.tmp 17) (pt x.1.2 4) (.int .i64 x.1.1) rfl (hd 3 rfl) (run_one hA9 2 4 rfl Try.underlying2 rfl) (hK _ (Mo.refl _))))
      · refine ⟨fun f wf hG hd K hK => go_run rfl (wo_bs26 (.tmp 18) x.1.1 rfl (hd 4 rfl) (fun k w9 hk _ hq hA => hK _ w9 (hgr _ _ hG hq) ⟨k, rfl, by have := hG.1.size; omega, hA⟩ (fun j u _ hr => hsm j u _ _ hr hq)))⟩
      · refine ⟨fun f wf hG hd K hK => ?_⟩
        obtain ⟨k9, e9, h9, hA9⟩ := hd 5 rfl
        have hk1l := (hG.1.at Q1 on_k1).lt
        refine go_run rfl (wo_app26 (.tmp 14) (.tmp 19) w.heap.size v pre.length (pre.map (fun x : Rx R => Value.int .i64 x.1.1)) k9 1 1 [.int .i64 x.1.1] rfl (hd 0 rfl) e9 hG.2 rfl hA9 (fun u hu => by rw [List.mem_singleton.1 hu]; rfl) (by decide) (by omega) (Nat.le_trans M.size hG.1.size) (fun v9 w9 h1 h2 h3 h4 => hK v9 w9 ⟨hG.1.trans h2, h3⟩ ⟨h1, fun e => by rcases h4 with h | h; exact on_k1 (h.symm.trans e); rw [h] at e; cases e; omega⟩ (fun j u hj hr => ?_)))
        match j, hj, hr with
        | 0, _, hr => exact hr
        | 1, _, hr => exact hr
        | 2, _, hr => exact hr
        | 3, _, hr => exact hr
        | 4, _, hr => exact hr
        | 5, _, hr => obtain ⟨k, q1, q2, q3⟩ := hr; exact ⟨k, q1, q2, h2.at q3 (fun e => by have := hvb k e; omega)⟩
        | 6, hj, _ => exact absurd rfl hj
        | j + 7, _, _ => trivial
    intro f w5 hG hR
    obtain ⟨hown5, on5⟩ := hR 6 rfl
    obtain ⟨g5, c5, hv5, _⟩ := hown5.form (by omega)
    have Q15 := hG.1.at Q1 on_k1
    refine wl_st1x 26 (.tmp 3) (.tmp 20) k1 0 (.slice (some ⟨g5, 0, none⟩) (pre.length + 1) c5) [v] [.slice (some ⟨g5, 0, none⟩) (pre.length + 1) c5] Q15 rfl rfl rfl hv5 rfl sz26 rfl rfl rfl rfl ?_
    intro w6 hT Q16
    refine w_nil ?_
    refine xn_blk ?_
    have hkd : Kd D W w6 := fun j hj => (hT.block j (fun e => nd_k1 (e ▸ hj))).trans (hG.1.block j (hS.lt hj) (hvD j hj))
    have hl9 : (pre ++ [x]).length = pre.length + 1 := by simp
    rw [hv5] at hown5 on5
    exact WX.mk ⟨keeps_app hown hG.1 hT Q1, hkd, _, Q16, by rw [hl9, List.map_append]; exact own_st2 hown5 hT on5, on5, hS.kd hkd, (Mk.refl (fun j => j = k1) _ |>.st hT rfl).mo (hG.1.mo M (fun k e => (hown.lt k e).1)) (fun _ e => e ▸ N_k1)⟩
  case done =>
    rintro D0 xs W hD rfl ⟨v, Q1, hown, _, hS, M⟩ hK
    replace hD := Nat.le_trans hNR hD
    refine xn_blk ?_
    refine xn_then ?_
    refine w_seq ?_
    refine w_reg ?_
    refine wl_load 26 (.tmp 3) (pt k1 0) (v) rfl rfl (run_one Q1 26 0 rfl Try.underlying26 rfl) rfl ?_
    refine wl_mv (.tmp 21) (v) (fun _ => rfl) rfl rfl ?_
    refine w_nil ?_
    refine xn_then ?_
    refine w_ret ?_
    have hids : xs.map (fun x : Rx R => Value.int .i64 x.1.1) = tr.ids.map (fun i => Value.int .i64 i) := by rw [← T.kv_ids, ← hKV]; simp
    have hZ := own_grown (by rw [hids] at hown; exact hown) (grownBy_putObj' _ D0 (.deferred none)) (fun r e => by cases e; exact ⟨_, hK, rfl⟩)
    obtain ⟨p, cap, hv, hSI, hpb⟩ := own_si hZ
    exact w_ret1m D0 _ v rfl hK rfl ⟨p, cap, by rw [hv], hSI, hpb, Mo.putO M hD hK rfl rfl⟩
end R
end Go.Proofs.Ytbmbldloeblbbaa
