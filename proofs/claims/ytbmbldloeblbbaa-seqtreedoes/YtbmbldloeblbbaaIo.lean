/-
  inOrder: the records in order.
-/
import Derived.Test.YtbmbldloeblbbaaNx
import Derived.Test.YtbmbldloeblbbaaOg2
namespace Go.Proofs.Ytbmbldloeblbbaa
open Go.RowKit
theorem upL_pos : ∀ C : Cx, upL C = ((posC C).head?).map (·.2)
  | [] => rfl
  | f :: C => by
    unfold upL posC
    cases f.d with
    | true => simpa using upL_pos C
    | false => rfl
theorem idx_once {L : List (Int × Nat)} (hn : (L.map (·.1)).Nodup) {i j : Nat} {a b : Int × Nat} (hi : L[i]? = some a) (hj : L[j]? = some b) (h : a.1 = b.1) : i = j := by
  have h1 : (L.map (·.1))[i]? = some a.1 := by simp [hi]
  have h2 : (L.map (·.1))[j]? = some a.1 := by simp [hj, h]
  obtain ⟨p1, q1⟩ := List.getElem?_eq_some_iff.1 h1
  obtain ⟨p2, q2⟩ := List.getElem?_eq_some_iff.1 h2
  exact (List.getElem_inj hn).1 (q1.trans q2.symm)
theorem next_n {D : Nat → Prop} {w : World} {t mb : Nat} {lk : Int} {tr : T} (hT : TS D w t mb [] tr lk) (hnd : tr.ids.Nodup) {i : Nat} {x : Int × Nat} (hx : tr.kv[i]? = some x) :
    Calls Try.prog 47 #[pt x.2 0] w fun e w' => e = .returned (pp ((tr.kv[i + 1]?).map (·.2))) ∧ Mo w w' := by
  obtain ⟨id, k⟩ := x
  obtain ⟨C, s, l, r, rfl⟩ := kv_focus tr (List.mem_of_getElem? hx)
  have hT1 := hT.at0
  have hkv := plug_kv C (T.n k id s l r)
  have hat : ((plug C (T.n k id s l r)).kv)[(preC C ++ l.kv).length]? = some (id, k) := by
    rw [hkv, show (T.n k id s l r).kv = l.kv ++ (id, k) :: r.kv from rfl, ← List.append_assoc, List.append_assoc (preC C ++ l.kv), List.getElem?_append_right (Nat.le_refl _)]
    simp
  have hi := idx_once (by rw [T.kv_ids]; exact hnd) hx hat rfl
  have hnx : ((plug C (T.n k id s l r)).kv)[i + 1]? = (r.kv ++ posC C).head? := by
    rw [hi, hkv, show (T.n k id s l r).kv = l.kv ++ (id, k) :: r.kv from rfl, ← List.append_assoc, List.append_assoc (preC C ++ l.kv), List.getElem?_append_right (by omega)]
    rw [show (preC C ++ l.kv).length + 1 - (preC C ++ l.kv).length = 1 by omega, List.cons_append, List.getElem?_cons_succ, ← List.head?_eq_getElem?]
  rw [hnx]
  cases r with
  | e =>
    have h := next_b hT1
    rw [upL_pos] at h
    exact h
  | n rk ri rz ra rb =>
    obtain ⟨R, root, hS, hC, hR, hn⟩ := hT1
    have h := next_a hS hR.1 hR.2.2
    rw [lm_kv] at h
    have e : ((T.n rk ri rz ra rb).kv ++ posC C).head? = (T.n rk ri rz ra rb).kv.head? := by
      cases hq : (T.n rk ri rz ra rb).kv with
      | nil => simp [T.kv] at hq
      | cons a b => rfl
    rw [e]
    exact h
/-- A record with its id. -/
abbrev Rx (R : Mp) := { x : Int × Nat // ∃ u l r s, R x.2 = some ⟨u, l, r, s, x.1⟩ }
theorem rep_rx {R : Mp} : ∀ {tr : T} {u : Option Nat}, Rep R u tr → ∀ x ∈ tr.kv, ∃ u l r s, R x.2 = some ⟨u, l, r, s, x.1⟩
  | .e, _, _, _, h => by cases h
  | .n k i s l r, u, h, x, hx => by
    simp only [T.kv, List.mem_append, List.mem_cons] at hx
    rcases hx with hx | rfl | hx
    · exact rep_rx h.2.1 x hx
    · exact ⟨_, _, _, _, h.1⟩
    · exact rep_rx h.2.2 x hx
theorem lift_list {β : Type} {p : β → Prop} : ∀ (l : List β), (∀ x ∈ l, p x) → ∃ L : List { x // p x }, L.map (·.1) = l
  | [], _ => ⟨[], rfl⟩
  | a :: l, h => by
    obtain ⟨L, hL⟩ := lift_list l (fun x hx => h x (List.mem_cons_of_mem _ hx))
    exact ⟨⟨a, h a List.mem_cons_self⟩ :: L, by simp [hL]⟩
theorem map_at {β : Type} {p : β → Prop} {L : List { x // p x }} {l : List β} (h : L.map (·.1) = l) {i : Nat} {a : β} {x : { x // p x }} (ha : l[i]? = some a) (hx : L[i]? = some x) : x.1 = a := by
  have h9 : (L.map (·.1))[i]? = some x.1 := by simp [hx]
  rw [h, ha] at h9
  cases h9; rfl
theorem at_kd {W W' : World} {k : Nat} {vs : List Value} (h : At W k vs) (hb : W'.heap[k]? = W.heap[k]?) : At W' k vs :=
  ⟨fun j u hu => (World.cell?_of_block (a := ⟨k, 0 + j, none⟩) hb).trans (h.1 j u hu), fun o => (World.frozen?_of_block (a := ⟨k, o, none⟩) hb).trans (h.2.1 o), by
    rcases Nat.lt_or_ge k W'.heap.size with q | q
    · exact q
    · rw [Array.getElem?_eq_none q, Array.getElem?_eq_getElem h.2.2] at hb; cases hb⟩
theorem HS.kd {D : Nat → Prop} {W W' : World} {t mb : Nat} {R : Mp} {root : Option Nat} {lk : Int} (h : HS D W t mb R root lk) (k : Kd D W W') : HS D W' t mb R root lk :=
  ⟨at_kd h.tr (k t h.dt), fun j r e => at_kd (h.rc j r e) (k j (h.dk e)), fun j r e => by obtain ⟨cs, ty, hc⟩ := h.cb j r e; exact ⟨cs, ty, (k j (h.dk e)).trans hc⟩, h.mt, h.dm, h.nb⟩
theorem HS.grown {D : Nat → Prop} {W W' : World} {row : Option Nat} {t mb : Nat} {R : Mp} {root : Option Nat} {lk : Int} (h : HS D W t mb R root lk) (hg : W.grownBy W' row) (hr : ∀ r, row = some r → ∃ o : Obj, W.heap[r]? = some o ∧ o.isCells = false) : HS D W' t mb R root lk :=
  ⟨h.tr.grown hg hr, fun j r e => by unfold Rc.cells; have := h.rc j r e; unfold Rc.cells at this; exact this.grown hg hr, fun j r e => by
    obtain ⟨cs, ty, hc⟩ := h.cb j r e
    exact ⟨cs, ty, (grownBy_keeps_cells hg hr hc rfl).trans hc⟩, h.mt, h.dm, h.nb⟩
namespace R
/-- inOrder: each record once, in their order, where a round keeps the tree's cells. -/
theorem io_seq {m t mb : Nat} {D : Nat → Prop} {w : World} {R : Mp} {lk : Int} {tr : T} (hS0 : HS D w t mb R tr.p lk) (hC : RepC R tr.p [] tr.p) (hR : Rep R (top []) tr) (hn : (adC [] ++ tr.ad).Nodup) (hnd : tr.ids.Nodup) {KV : List (Rx R)} (hKV : KV.map (·.1) = tr.kv) :
    SeqF m Try.prog 42 #[pt t 0] #[] (fun x : Rx R => #[pt x.1.2 0]) (Kd D) (fun xs => xs = KV) (fun pre => ∃ i : Nat, 0 < i ∧ i ≤ KV.length ∧ pre = KV.take i) KV.length w := by
  intro lp J Jx W hW hJ hJx hY h0
  have hS := hS0.mo hW
  refine w_enter 18 Try.func42 Try.ntmps42 rfl rfl ?_
  have M : Mo W W := Mo.refl _
  refine w_seq ?_
  refine w_reg ?_
  refine wl_mv (.tmp 0) (pt t 0) (fun _ => rfl) rfl rfl ?_
  refine wl_nc (.tmp 5) t 0 rfl rfl rfl ?_
  refine wl_un (fun v => Instr.fieldAt 59 v 0) (.tmp 6) (pt t 0) (pt t 0) (fun _ => rfl) rfl (by kernel_rfl) rfl ?_
  refine wl_load 56 (.tmp 7) (pt t 0) (pp tr.p) rfl rfl (run_one hS.tr 56 0 rfl Try.underlying56 rfl) rfl ?_
  refine wl_call 46 [(.tmp 8), (.const (.int .i64 (0)))] _ [pp tr.p, .int .i64 (0)] (pp (lm tr)) rfl rfl (fun _ _ => by kernel_rfl) (outer_n hS hR) rfl ?_
  intro w1 hq
  replace hS := hS.mo hq
  replace h0 := hJ _ _ _ h0 hq
  replace M := M.trans hq
  clear hq
  refine wl_mv (.tmp 9) (pp (lm tr)) (fun _ => rfl) rfl rfl ?_
  refine w_nil ?_
  refine xn_then ?_
  refine w_block ?_
  refine w_loop (fun k l wc => ∃ i : Nat, k + i = KV.length ∧ look l 0 = pt t 0 ∧ look l 1 = .func (.yield lp) #[] #[] ∧ look l 4 = pp ((tr.kv[i]?).map (·.2)) ∧ J (KV.take i) wc ∧ HS D wc t mb R tr.p lk) KV.length ⟨0, by omega, rfl, rfl, by rw [lm_kv, List.head?_eq_getElem?]; rfl, h0, hS⟩ ?_
  clear h0 hS M
  rintro k l wc ⟨i, hm, g0, g1, g4, hJi, hS⟩
  have M : Mo wc wc := Mo.refl _
  have hkl : KV.length = tr.kv.length := by rw [← hKV]; simp
  cases hxi : tr.kv[i]? with
  | none =>
    rw [hxi] at g4
    have hi9 : i = KV.length := by have := List.getElem?_eq_none_iff.1 hxi; omega
    refine w_seq ?_
    refine w_seq ?_
    refine w_reg ?_
    refine wl_mv (.tmp 4) (pp none) (fun _ => rfl) g4 rfl ?_
    refine wl_bin (fun x y => do eqGuard .neq 56 (.tmp 10) (.const (.pointer none)) x y; binOp .neq 56 x y) (.tmp 10) (.const (.pointer none)) (pp none) (pp none) (.bool false) (fun _ => rfl) rfl rfl (ne56 none _ _ _) rfl ?_
    refine w_nil ?_
    refine xn_then ?_
    refine w_condF rfl ?_
    refine w_exit ?_
    refine xx_then ?_
    refine xx_then ?_
    refine xx_blk ?_
    exact w_end0 rfl ⟨⟨_, rfl⟩, .inl ⟨_, by rw [hi9, List.take_length], hJi⟩⟩
  | some xk =>
    have hlt := (List.getElem?_eq_some_iff.1 hxi).1
    obtain ⟨x, hx⟩ : ∃ x, KV[i]? = some x := ⟨KV[i]'(by omega), List.getElem?_eq_getElem _⟩
    have hxe : x.1 = xk := map_at hKV hxi hx
    subst hxe
    rw [hxi] at g4
    replace g4 : look l 4 = pt x.1.2 0 := g4
    have htk : KV.take (i + 1) = KV.take i ++ [x] := by rw [List.take_add_one, hx]; rfl
    refine w_seq ?_
    refine w_seq ?_
    refine w_reg ?_
    refine wl_mv (.tmp 4) (pt x.1.2 0) (fun _ => rfl) g4 rfl ?_
    refine wl_bin (fun x y => do eqGuard .neq 56 (.tmp 10) (.const (.pointer none)) x y; binOp .neq 56 x y) (.tmp 10) (.const (.pointer none)) (pt x.1.2 0) (pp none) (.bool true) (fun _ => rfl) rfl rfl (ne56 (some x.1.2) _ _ _) rfl ?_
    refine w_nil ?_
    refine xn_then ?_
    refine w_condT rfl ?_
    refine w_skip ?_
    refine xn_then ?_
    refine w_seq ?_
    refine w_block ?_
    refine w_seq ?_
    refine w_regL ?_
    refine rl_o rfl (wo_mv (.tmp 1) (.func (.yield lp) #[] #[]) (fun _ => rfl) g1 ⟨_, rfl, ?_⟩)
    refine rl_o rfl (wo_mv (.tmp 4) (pt x.1.2 0) (fun _ => rfl) g4 ⟨_, rfl, ?_⟩)
    refine rl_yield (.tmp 14) [(.tmp 15)] _ [pt x.1.2 0] lp rfl rfl rfl rfl (hY (KV.take i) x _ hJi (by rw [List.length_take]; omega)) ?_
    rintro e w11 (⟨rfl, hJ2, hk2⟩ | ⟨rfl, hJx2⟩)
    · refine ⟨_, rfl, ?_⟩
      rw [← htk] at hJ2
      replace hS := hS.kd hk2
      clear M
      have M : Mo w11 w11 := Mo.refl _
      refine rl_o rfl (wo_un (fun v => Op.unary .not v) (.tmp 16) (.bool true) (.bool false) (fun _ => rfl) rfl (by kernel_rfl) ⟨_, rfl, ?_⟩)
      refine rl_nil ?_
      refine xn_then ?_
      refine w_condF rfl ?_
      refine w_skip ?_
      refine xn_blk ?_
      refine xn_then ?_
      refine w_reg ?_
      refine wl_mv (.tmp 4) (pt x.1.2 0) (fun _ => rfl) g4 rfl ?_
      refine wl_call 47 [(.tmp 12)] _ [pt x.1.2 0] (pp ((tr.kv[i + 1]?).map (·.2))) rfl rfl (fun _ _ => by kernel_rfl) (next_n ⟨R, tr.p, hS, hC, hR, hn⟩ hnd hxi) rfl ?_
      intro w12 hq
      replace hS := hS.mo hq
      replace hJ2 := hJ _ _ _ hJ2 hq
      replace M := M.trans hq
      clear hq
      refine wl_mv (.tmp 13) (pp ((tr.kv[i + 1]?).map (·.2))) (fun _ => rfl) rfl rfl ?_
      refine w_nil ?_
      exact xn_loop (k - 1) (by omega) ⟨i + 1, by omega, g0, g1, rfl, hJ2, hS⟩
    · refine ⟨_, rfl, ?_⟩
      rw [← htk] at hJx2
      refine rl_o rfl (wo_un (fun v => Op.unary .not v) (.tmp 16) (.bool false) (.bool true) (fun _ => rfl) rfl (by kernel_rfl) ⟨_, rfl, ?_⟩)
      refine rl_nil ?_
      refine xn_then ?_
      refine w_condT rfl ?_
      refine w_ret ?_
      refine xr_blk ?_
      refine xr_then ?_
      refine xr_then ?_
      refine xr_blk ?_
      exact w_ret0 rfl ⟨⟨_, rfl⟩, .inr ⟨_, ⟨i + 1, by omega, by omega, rfl⟩, hJx2⟩⟩
end R
end Go.Proofs.Ytbmbldloeblbbaa
