/-
  A part of the proof.
-/
import Derived.Test.YthfemlhmnjfjiaaC9
import Derived.Maps.AppendAt
import Derived.Deep.AppendLies
import Derived.Test.YthfemlhmnjfjiaaC4
/-
 inOrder: the records in order.
-/
namespace Go.Proofs.Ythfemlhmnjfjiaa
open Go.RowKit
namespace G
theorem At.grown {W W' : World} {row : Option Nat} {k : Nat} {v : Value} {vs : List Value} (h : At W k (v :: vs)) (hg : W.grownBy W' row) (hr : ∀ r, row = some r → ∃ o : Obj, W.heap[r]? = some o ∧ o.isCells = false) : At W' k (v :: vs) := by
 have h0 := h.cell (j := 0) (v := v) rfl
 obtain ⟨o, ho, hc⟩ := cells_of_cell h0
 have hb : W'.heap[k]? = W.heap[k]? := grownBy_keeps_cells hg hr ho hc
 refine ⟨fun j u hu => (World.cell?_of_block (a := ⟨k, 0 + j, none⟩) hb).trans (h.1 j u hu), fun o => (World.frozen?_of_block (a := ⟨k, o, none⟩) hb).trans (h.2.1 o), Nat.lt_of_lt_of_le h.2.2 hg.size⟩
namespace R
theorem frps1 {n : Nat} {l : List (Nat × Value)} (p : Tmp) (u : Value) : ({ tmps := ((#[p] : Array Tmp).zip #[u]).foldl (fun t (p, v) => t.setIfInBounds p v) (fr n l).tmps, defers := [] } : Act) = fr n (ext l (some p) u) := by
 rw [← fr_put]; simp [Act.put]; rfl
theorem frps2 {n : Nat} {l : List (Nat × Value)} (p q : Tmp) (u v : Value) : ({ tmps := ((#[p, q] : Array Tmp).zip #[u, v]).foldl (fun t (p, v) => t.setIfInBounds p v) (fr n l).tmps, defers := [] } : Act) = fr n (ext (ext l (some p) u) (some q) v) := by
 rw [← fr_put, ← fr_put]; simp [Act.put]; rfl
theorem Mo.putO {a W : World} (h : Mo a W) {D : Nat} {o o' : Obj} (hD : a.heap.size ≤ D) (hl : W.heap[D]? = some o) (ho : o.isCells = false) (ho' : o'.isCells = false) : Mo a (W.putObj D o') :=
 ⟨⟨h.1.os, h.1.tape, h.1.output, by have := h.1.size; simpa using this, fun k hk => (World.putObj_heap_other (by omega)).trans (h.1.block k hk)⟩, fun x => (frozen_put hl ho ho' x).trans (h.2 x)⟩
theorem own_moF {β : Type} {B : Nat} {a : World} (ha : a.heap.size ≤ B) : OwnF B (fun (_ : β) W => Mo a W) := fun _ W W' row hs hg hf hr =>
 ⟨⟨hg.os.trans hs.1.os, hg.tape.trans hs.1.tape, hg.output.trans hs.1.output, Nat.le_trans hs.1.size hg.size, fun k hk => (hg.block k (Nat.lt_of_lt_of_le hk hs.1.size) (fun e => by have := (hr k e.symm).1; omega)).trans (hs.1.block k hk)⟩, fun x => (hf x).trans (hs.2 x)⟩
theorem OwnF.and {β : Type} {B : Nat} {I J : β → World → Prop} (h : OwnF B I) (k : OwnF B J) : OwnF B (fun s W => I s W ∧ J s W) := fun s W W' row hs hg hf hr => ⟨h s W W' row hs.1 hg hf hr, k s W W' row hs.2 hg hf hr⟩
theorem OwnF.pure {β : Type} {B : Nat} {p : β → Prop} : OwnF B (fun s _ => p s) := fun _ _ _ _ hs _ _ _ => hs
theorem OwnF.at {β : Type} {B k : Nat} {f : β → Value} {g : β → List Value} : OwnF B (fun s W => At W k (f s :: g s)) := fun _ _ _ _ hs hg _ hr => At.grown hs hg (fun r e => (hr r e).2)
section
variable {m : Nat} {ds : List Deferred} {P : Program} {n : Nat} {l : List (Nat × Value)} {w : World}
theorem w_ret0 {fn : Func} {X : Ending → World → Prop} (hf : fn.results = #[]) (hR : X (.returned (.tuple #[])) w) : WX (Wd [] (bodyPostM (Fw none) m P fn X)) .ret n l w := ⟨⟨.tuple #[], by simp [results, hf], hR⟩⟩
theorem w_end0 {fn : Func} {X : Ending → World → Prop} (hf : fn.results = #[]) (hR : X (.returned (.tuple #[])) w) : WX (Wd [] (bodyPostM (Fw none) m P fn X)) .normal n l w := ⟨⟨.tuple #[], by simp [results, hf], hR⟩⟩
theorem w_ret1m {fn : Func} {X : Ending → World → Prop} (D : Nat) (x : ResultVar) (v : Value) (hf : fn.results = #[x]) (hK : w.heap[D]? = some (.deferred (some []))) (h : resv n l P (w.putObj D (.deferred none)) v x) (hR : X (.returned v) (w.putObj D (.deferred none))) : WX (Wd [{ target := .collected D, args := #[] }] (bodyPostM (Fw none) m P fn X)) .ret n l w := ⟨by
 obtain ⟨_, v', h1, h2⟩ := c_ret1 (R := X) x v hf h hR
 exact ⟨by simp, .inl ⟨D, _, rfl, run_takeDeferred hK, v', h1, h2⟩⟩⟩
end
end R
namespace R
theorem dk_st {w w' : World} {D k : Nat} {o : Obj} (h : w.heap[D]? = some o) (s : St2 k w w') (hk : D ≠ k) : w'.heap[D]? = some o := (s.block D hk).trans h
theorem dk_mo {w w' : World} {D : Nat} {o : Obj} (h : w.heap[D]? = some o) (m : Mo w w') : w'.heap[D]? = some o := (m.1.block D (Array.getElem?_eq_some_iff.1 h).1).trans h
theorem dk_ne {w : World} {D k : Nat} {o : Obj} {v : Value} {vs : List Value} (h : w.heap[D]? = some o) (ho : o.isCells = false) (hA : At w k (v :: vs)) : D ≠ k := fun e => by
 subst e
 obtain ⟨o', ho', hc⟩ := cells_of_cell (hA.cell (j := 0) (v := v) rfl)
 have : o = o' := by have := h.symm.trans ho'; cases this; rfl
 subst this; rw [ho] at hc; cases hc
end R
def Kd (D : Nat → Prop) (W W' : World) : Prop := ∀ k, D k → W'.heap[k]? = W.heap[k]?
theorem Kd.tr {D : Nat → Prop} {A B C : World} (h : Kd D A B) (k : Kd D B C) : Kd D A C := fun j hj => (k j hj).trans (h j hj)
def Dh (D : Nat → Prop) (mb : Hd) (j : Nat) : Prop := D j ∨ ob mb.h = some j
theorem at_kd {W W' : World} {k : Nat} {vs : List Value} (h : At W k vs) (hb : W'.heap[k]? = W.heap[k]?) : At W' k vs :=
 ⟨fun j u hu => (World.cell?_of_block (a := ⟨k, 0 + j, none⟩) hb).trans (h.1 j u hu), fun o => (World.frozen?_of_block (a := ⟨k, o, none⟩) hb).trans (h.2.1 o), by
  rcases Nat.lt_or_ge k W'.heap.size with q | q
  ·exact q
  ·rw [Array.getElem?_eq_none q, Array.getElem?_eq_getElem h.2.2] at hb; cases hb⟩
theorem lt_kd {W W' : World} {k : Nat} (h : k < W.heap.size) (hb : W'.heap[k]? = W.heap[k]?) : k < W'.heap.size := by
 rcases Nat.lt_or_ge k W'.heap.size with q | q
 ·exact q
 ·rw [Array.getElem?_eq_none q, Array.getElem?_eq_getElem h] at hb; cases hb
theorem Rw.kd {W W' : World} {m : Nat} {h : Value} {L : List (List Value)} (r : Rw W m h L) (hk : ∀ b, ob h = some b → W'.heap[b]? = W.heap[b]?) : Rw W' m h L := by
 obtain ⟨p, cap, rfl, f⟩ := r
 refine ⟨p, cap, rfl, fun hL => ?_⟩
 obtain ⟨b, off, rfl, h2, h3, h4⟩ := f hL
 have hb := hk b (ob_slice (fun e => hL (List.length_eq_zero_iff.1 e)))
 exact ⟨b, off, rfl, lt_kd h2 hb, fun o => (World.frozen?_of_block (a := ⟨b, o, none⟩) hb).trans (h3 o), fun i cs hi j v hv => (World.cell?_of_block (a := ⟨b, off + i * m + j, none⟩) hb).trans (h4 i cs hi j v hv)⟩
theorem Rw.has {W : World} {m : Nat} {h : Value} {L : List (List Value)} (r : Rw W m h L) (hL : ∀ cs ∈ L, cs ≠ []) {b : Nat} (e : ob h = some b) : ∃ o v, W.cell? ⟨b, o, none⟩ = some v := by
 obtain ⟨p, cap, rfl, f⟩ := r
 obtain ⟨a, n, cap2, e1, e2⟩ := ob_some e
 rw [Value.slice.injEq] at e1
 have e3 : p = some a ∧ L.length = n + 1 := ⟨e1.1, e1.2.1⟩
 have hne : L ≠ [] := fun q => by rw [q] at e3; cases e3.2
 obtain ⟨b2, off, h1, h2, _, h4⟩ := f hne
 rw [h1] at e3
 cases e3.1
 obtain ⟨cs, hcs⟩ : ∃ cs, L[0]? = some cs := ⟨L[0]'(by omega), List.getElem?_eq_getElem _⟩
 have hc := hL cs (List.mem_of_getElem? hcs)
 obtain ⟨v, hv⟩ : ∃ v, cs[0]? = some v := by
  cases cs with
  | nil => exact absurd rfl hc
  | cons v vs => exact ⟨v, rfl⟩
 have e4 : b2 = b := e2
 subst e4
 exact ⟨_, v, h4 0 cs hcs 0 v hv⟩
theorem HS.kd2 {D : Nat → Prop} {W W' : World} {t : Nat} {mb : Hd} {R : Mp} {root : Option Nat} {lk : Int} (h : HS D W t mb R root lk) (hlt : ∀ k, D k → k < W'.heap.size) (hk : ∀ b, (∃ o v, W.cell? ⟨b, o, none⟩ = some v) → Dh D mb b → W'.heap[b]? = W.heap[b]?) : HS D W' t mb R root lk := by
 have hA : ∀ {k : Nat} {v : Value} {vs : List Value}, At W k (v :: vs) → ∃ o u, W.cell? ⟨k, o, none⟩ = some u := fun {k v vs} a => ⟨_, v, a.1 0 v rfl⟩
 have sms : ∀ L : List Sm, ∀ cs ∈ L.map sml, cs ≠ [] := fun L cs hc => by obtain ⟨z, _, rfl⟩ := List.mem_map.1 hc; intro q; cases q
 have vss : ∀ L : List V10, ∀ cs ∈ L.map V10.cells, cs ≠ [] := fun L cs hc => by obtain ⟨z, _, rfl⟩ := List.mem_map.1 hc; intro q; cases q
 refine ⟨at_kd h.tr (hk t (hA h.tr) (Or.inl h.dt)), h.sc.kd (fun b hb => hk b (h.sc.has (fun cs hc => by obtain ⟨z, _, rfl⟩ := List.mem_map.1 hc; intro q; cases q) hb) (Or.inr hb)), h.sd, fun j r e => at_kd (h.rc j r e) (hk j (hA (h.rc j r e)) (Or.inl (h.dk e))), fun j r e => ?_, fun j r e => ⟨(h.sv j r e).1.kd (fun b hb => hk b ((h.sv j r e).1.has (vss _) hb) (Or.inl (h.ds e (Or.inl hb)).1)), (h.sv j r e).2⟩, fun j r e => ⟨(h.ss j r e).1.kd (fun b hb => hk b ((h.ss j r e).1.has (sms _) hb) (Or.inl (h.ds e (Or.inr hb)).1)), (h.ss j r e).2⟩, h.mt, h.dt, h.dk, h.ds, fun e => hlt _ e, h.nb, h.nc⟩
 obtain ⟨cs, ty, hc⟩ := h.cb j r e
 exact ⟨cs, ty, (hk j (hA (h.rc j r e)) (Or.inl (h.dk e))).trans hc⟩
theorem HS.kd {D : Nat → Prop} {W W' : World} {t : Nat} {mb : Hd} {R : Mp} {root : Option Nat} {lk : Int} (h : HS D W t mb R root lk) (k : Kd (Dh D mb) W W') : HS D W' t mb R root lk :=
 h.kd2 (fun j hj => lt_kd (h.lt hj) (k j (Or.inl hj))) (fun b _ hb => k b hb)
theorem HS.grown {D : Nat → Prop} {W W' : World} {row : Option Nat} {t : Nat} {mb : Hd} {R : Mp} {root : Option Nat} {lk : Int} (h : HS D W t mb R root lk) (hg : W.grownBy W' row) (hr : ∀ r, row = some r → ∃ o : Obj, W.heap[r]? = some o ∧ o.isCells = false) : HS D W' t mb R root lk :=
 h.kd2 (fun j hj => Nat.lt_of_lt_of_le (h.lt hj) hg.size) (fun b ⟨o, v, hc⟩ _ => by
  obtain ⟨o', ho, hcc⟩ := cells_of_cell hc
  exact grownBy_keeps_cells hg hr ho hcc)
def T.ky : T → List (Py × Nat)
 | .e => []
 | .n k i _ l r => l.ky ++ (i, k) :: r.ky
theorem T.ky_kv : ∀ tr : T, tr.kv = tr.ky.map (fun x => (x.1.i, x.2))
 | .e => rfl
 | .n k i s l r => by unfold T.kv T.ky; rw [T.ky_kv l, T.ky_kv r]; simp
theorem T.ky_ids : ∀ tr : T, tr.ids = tr.ky.map (·.1)
 | .e => rfl
 | .n k i s l r => by unfold T.ids T.ky; rw [T.ky_ids l, T.ky_ids r]; simp
abbrev Rx (R : Mp) := { x : Py × Nat // ∃ r : Rc, R x.2 = some r ∧ r.i = x.1 }
theorem rep_rx {sc : List Int} {R : Mp} : ∀ {tr : T} {u : Option Nat}, Rep sc R u tr → ∀ x ∈ tr.ky, ∃ r : Rc, R x.2 = some r ∧ r.i = x.1
 | .e, _, _, _, h => by cases h
 | .n k i s l r, u, h, x, hx => by
  simp only [T.ky, List.mem_append, List.mem_cons] at hx
  rcases hx with hx | rfl | hx
  ·exact rep_rx h.2.1 x hx
  ·obtain ⟨h9, e9⟩ := h.1; exact ⟨_, e9, rfl⟩
  ·exact rep_rx h.2.2 x hx
theorem lift_list {β : Type} {p : β → Prop} : ∀ (l : List β), (∀ x ∈ l, p x) → ∃ L : List { x // p x }, L.map (·.1) = l
 | [], _ => ⟨[], rfl⟩
 | a :: l, h => by
  obtain ⟨L, hL⟩ := lift_list l (fun x hx => h x (List.mem_cons_of_mem _ hx))
  exact ⟨⟨a, h a List.mem_cons_self⟩ :: L, by simp [hL]⟩
theorem map_at {β : Type} {p : β → Prop} {L : List { x // p x }} {l : List β} (h : L.map (·.1) = l) {i : Nat} {a : β} {x : { x // p x }} (ha : l[i]? = some a) (hx : L[i]? = some x) : x.1 = a := by
 have h9 : (L.map (·.1))[i]? = some x.1 := by simp [hx]
 rw [h, ha] at h9
 cases h9; rfl
namespace R
theorem io_seq {m t : Nat} {mb : Hd} {D : Nat → Prop} {w : World} {R : Mp} {lk : Int} {tr : T} (hS0 : HS D w t mb R tr.p lk) (hA : Ap R) (hC : RepC mb.sc R tr.p [] tr.p) (hR : Rep mb.sc R (top []) tr) (hn : (adC [] ++ tr.ad).Nodup) (hnd : (tr.ids.map (·.i)).Nodup) {KV : List (Rx R)} (hKV : KV.map (·.1) = tr.ky) :
  SeqF m Try.prog 56 #[pt t 0] #[] (fun x : Rx R => #[pt x.1.2 0]) (Kd (Dh D mb)) (fun xs => xs = KV) (fun pre => ∃ i : Nat, 0 < i ∧ i ≤ KV.length ∧ pre = KV.take i) KV.length w := by
 intro lp J Jx W hW hJ hJx hY h0
 have hS := hS0.mo hW
 refine w_enter 18 Try.func56 Try.ntmps56 rfl rfl ?_
 have M : Mo W W := Mo.refl _
 refine w_seq (w_reg ?_)
 refine wl_m (.tmp 0) (pt t 0) ?_
 refine wl_nc (.tmp 5) t 0 rfl rfl rfl ?_
 refine wl_f 68 1 (.tmp 6) (pt t 0) (pt t 1) ?_
 refine wl_l 65 (.tmp 7) (pt t 1) (pp tr.p) (run_one hS.tr 65 1 rfl Try.underlying65 rfl) ?_
 refine wl_call 70 [(.tmp 8), (.const (.int .i64 (0)))] _ [pp tr.p, .int .i64 (0)] (pp (lm tr)) rfl rfl (fun _ _ => by kernel_rfl) (outer_n hS hR) rfl ?_
 intro w1 hq
 replace hS := hS.mo hq
 replace h0 := hJ _ _ _ h0 hq
 replace M := M.trans hq
 clear hq
 refine wl_m (.tmp 9) (pp (lm tr)) ?_
 refine w_nil (xn_then (w_block ?_))
 refine w_loop (fun k l wc => ∃ i : Nat, k + i = KV.length ∧ look l 0 = pt t 0 ∧ look l 1 = .func (.yield lp) #[] #[] ∧ look l 4 = pp ((tr.kv[i]?).map (·.2)) ∧ J (KV.take i) wc ∧ HS D wc t mb R tr.p lk) KV.length ⟨0, by omega, rfl, rfl, by rw [lm_kv, List.head?_eq_getElem?]; rfl, h0, hS⟩ ?_
 clear h0 hS M
 rintro k l wc ⟨i, hm, g0, g1, g4, hJi, hS⟩
 have M : Mo wc wc := Mo.refl _
 have hkl : KV.length = tr.ky.length := by rw [← hKV]; simp
 rw [T.ky_kv, List.getElem?_map] at g4
 cases hxi : tr.ky[i]? with
 | none =>
  rw [hxi] at g4
  have hi9 : i = KV.length := by have := List.getElem?_eq_none_iff.1 hxi; omega
  refine w_seq (w_seq (w_reg ?_))
  refine wl_mv (.tmp 4) (pp none) (fun _ => rfl) g4 rfl ?_
  refine wl_b .neq 65 (.tmp 10) (.const (.pointer none)) (pp none) (pp none) (.bool false) (neP none _ _ _) ?_
  refine w_nil (xn_then (w_condF rfl (w_exit (xx_then (xx_then (xx_blk ?_))))))
  exact w_end0 rfl ⟨⟨_, rfl⟩, .inl ⟨_, by rw [hi9, List.take_length], hJi⟩⟩
 | some xk =>
  have hlt := (List.getElem?_eq_some_iff.1 hxi).1
  obtain ⟨x, hx⟩ : ∃ x, KV[i]? = some x := ⟨KV[i]'(by omega), List.getElem?_eq_getElem _⟩
  have hxe : x.1 = xk := map_at hKV hxi hx
  subst hxe
  rw [hxi] at g4
  replace g4 : look l 4 = pt x.1.2 0 := g4
  have htk : KV.take (i + 1) = KV.take i ++ [x] := by rw [List.take_add_one, hx]; rfl
  refine w_seq (w_seq (w_reg ?_))
  refine wl_mv (.tmp 4) (pt x.1.2 0) (fun _ => rfl) g4 rfl ?_
  refine wl_b .neq 65 (.tmp 10) (.const (.pointer none)) (pt x.1.2 0) (pp none) (.bool true) (neP (some x.1.2) _ _ _) ?_
  refine w_nil (xn_then (w_condT rfl (w_skip (xn_then (w_seq (w_block (w_seq ?_)))))))
  refine w_regL ?_
  refine rl_o rfl (wo_mv (.tmp 1) (.func (.yield lp) #[] #[]) (fun _ => rfl) g1 ⟨_, rfl, ?_⟩)
  refine rl_o rfl (wo_mv (.tmp 4) (pt x.1.2 0) (fun _ => rfl) g4 ⟨_, rfl, ?_⟩)
  refine rl_yield (.tmp 14) [(.tmp 15)] _ [pt x.1.2 0] lp rfl rfl rfl rfl (hY (KV.take i) x _ hJi (by rw [List.length_take]; omega)) ?_
  rintro e w11 (⟨rfl, hJ2, hk2⟩ | ⟨rfl, hJx2⟩)
  ·refine ⟨_, rfl, ?_⟩
   rw [← htk] at hJ2
   replace hS := hS.kd hk2
   clear M
   have M : Mo w11 w11 := Mo.refl _
   refine rl_o rfl (wo_un (fun v => Op.unary .not v) (.tmp 16) (.bool true) (.bool false) (fun _ => rfl) rfl (by kernel_rfl) ⟨_, rfl, ?_⟩)
   refine rl_nil ?_
   refine xn_then (w_condF rfl (w_skip (xn_blk (xn_then (w_reg ?_)))))
   refine wl_mv (.tmp 4) (pt x.1.2 0) (fun _ => rfl) g4 rfl ?_
   refine wl_call 71 [(.tmp 12)] _ [pt x.1.2 0] (pp ((tr.kv[i + 1]?).map (·.2))) rfl rfl (fun _ _ => by kernel_rfl) (next_n (x := (x.1.1.i, x.1.2)) ⟨hS, hA, hC, hR, hn⟩ hnd (by rw [T.ky_kv, List.getElem?_map, hxi]; rfl)) rfl ?_
   intro w12 hq
   replace hS := hS.mo hq
   replace hJ2 := hJ _ _ _ hJ2 hq
   replace M := M.trans hq
   clear hq
   refine wl_m (.tmp 13) (pp ((tr.kv[i + 1]?).map (·.2))) ?_
   refine w_nil ?_
   exact xn_loop (k - 1) (by omega) ⟨i + 1, by omega, g0, g1, rfl, hJ2, hS⟩
  ·refine ⟨_, rfl, ?_⟩
   rw [← htk] at hJx2
   refine rl_o rfl (wo_un (fun v => Op.unary .not v) (.tmp 16) (.bool false) (.bool true) (fun _ => rfl) rfl (by kernel_rfl) ⟨_, rfl, ?_⟩)
   refine rl_nil ?_
   refine xn_then (w_condT rfl (w_ret (xr_blk (xr_then (xr_then (xr_blk ?_))))))
   exact w_ret0 rfl ⟨⟨_, rfl⟩, .inr ⟨_, ⟨i + 1, by omega, by omega, rfl⟩, hJx2⟩⟩
end R
end G
end Go.Proofs.Ythfemlhmnjfjiaa
/-
 Rows put behind a slice of one's own.
-/
namespace Go.Proofs.Ythfemlhmnjfjiaa
open Go.RowKit
namespace G
structure AppW (v : Value) (w w' : World) : Prop where
 os : w'.os = w.os
 tape : w'.tape = w.tape
 output : w'.output = w.output
 size : w.heap.size ≤ w'.heap.size
 block : ∀ k, k < w.heap.size → v.ownBlock ≠ some k → w'.heap[k]? = w.heap[k]?
 fz : ∀ a, w'.frozen? a = w.frozen? a
theorem AppW.at {v : Value} {w w' : World} (h : AppW v w w') {j : Nat} {vs : List Value} (hA : At w j vs) (hn : v.ownBlock ≠ some j) : At w' j vs :=
 ⟨fun i u hu => (World.cell?_of_block (a := ⟨j, 0 + i, none⟩) (h.block j hA.2.2 hn)).trans (hA.1 i u hu), fun o => (h.fz _).trans (hA.2.1 o), Nat.lt_of_lt_of_le hA.2.2 h.size⟩
theorem AppW.mo {v : Value} {w w' a : World} (h : AppW v w w') (hM : Mo a w) (hn : ∀ k, v.ownBlock = some k → a.heap.size ≤ k) : Mo a w' :=
 ⟨⟨h.os.trans hM.1.os, h.tape.trans hM.1.tape, h.output.trans hM.1.output, Nat.le_trans hM.1.size h.size, fun k hk => (h.block k (Nat.lt_of_lt_of_le hk hM.1.size) (fun e => by have := hn k e; omega)).trans (hM.1.block k hk)⟩, fun x => (h.fz x).trans (hM.2 x)⟩
theorem AppW.refl (v : Value) (w : World) : AppW v w w.drew := ⟨rfl, rfl, rfl, Nat.le_refl _, fun _ _ _ => rfl, fun _ => rfl⟩
theorem AppW.trans {v : Value} {a b c : World} (h : AppW v a b) (k : AppW v b c) : AppW v a c :=
 ⟨k.os.trans h.os, k.tape.trans h.tape, k.output.trans h.output, Nat.le_trans h.size k.size, fun j hj hn => (k.block j (Nat.lt_of_lt_of_le hj h.size) hn).trans (h.block j hj hn), fun a => (k.fz a).trans (h.fz a)⟩
theorem AppW.grow {v : Value} {a b c : World} (h : AppW v a b) (k : Mo b c) : AppW v a c :=
 ⟨k.1.os.trans h.os, k.1.tape.trans h.tape, k.1.output.trans h.output, Nat.le_trans h.size k.size, fun j hj hn => (k.1.block j (Nat.lt_of_lt_of_le hj h.size)).trans (h.block j hj hn), fun a => (k.2 a).trans (h.fz a)⟩
theorem inf295 : ∃ i, Try.prog.info? 83 = some i ∧ i.zero = some (.agg #[.int .i64 0, .slice none 0 0]) ∧ i.size = 2 ∧ i.bytes = 32 := by
 have h : (Try.prog.info? 83).map (fun i => (i.zero, i.size, i.bytes)) = some (some (.agg #[.int .i64 0, .slice none 0 0]), 2, 32) := by kernel_rfl
 cases hi : Try.prog.info? 83 with
 | none => rw [hi] at h; cases h
 | some i =>
  rw [hi] at h
  simp at h
  exact ⟨i, rfl, h.1, h.2.1, h.2.2⟩
theorem own_mo95 {w w' : World} {N : Nat} {v : Value} {n : Nat} {xs : List Value} (h : w.ownsRow N 83 2 v n xs) (m : Mo w w') : w'.ownsRow N 83 2 v n xs :=
 h.kept (row := none) ⟨m.1.os, m.1.tape, m.1.output, m.1.size, fun k hk _ => m.1.block k hk⟩ (by cases e : v.ownBlock <;> simp)
theorem app95 (w : World) (ty : TypeId) (N : Nat) (v : Value) (n : Nat) (xs : List Value) (hown : w.ownsRow N 83 2 v n xs) (k m c : Nat) (news : List Value) (hl : news.length = m * 2) (hA : At w k news) (h1 : ∀ u ∈ news, u.oneCell' = true) (hm : 0 < m) (hn : n + m ≤ 700000000000) (hN : N ≤ w.heap.size) :
  ∃ v' w', (Builtin.append_ #[95, 95] ty #[v, .slice (some ⟨k, 0, none⟩) m c]).run Try.prog w = .ok v' w' ∧ w'.ownsRow N 83 2 v' (n + m) (xs ++ news) ∧ AppW v w w' ∧ (v'.ownBlock = v.ownBlock ∨ v'.ownBlock = some w.heap.size) := by
 obtain ⟨i, hi, hz, hs, hby⟩ := inf295
 have hnews : ∀ j u, news[j]? = some u → w.cell? ((⟨k, 0, none⟩ : Addr).add j) = some u := fun j u hu => by
  rw [Addr.add_mid]; have := hA.1 j u hu; simpa using this
 obtain ⟨v', w', hr, h2, h3, _, h5⟩ := run_append_own_at (P := Try.prog) w N 95 ty 83 i _ 2 32 Try.underlying95 hi hz hs hby rfl (by decide) v n xs hown ⟨k, 0, none⟩ m c news hl hnews h1 (by unfold maxLen; omega) (by omega) hN
 refine ⟨v', w', hr, h2, ⟨h3.os, h3.tape, h3.output, h3.size, fun j hj hne => h3.block j hj (fun e => hne e.symm), ?_⟩, h5⟩
 rcases hown.2 with ⟨rfl, rfl⟩ | ⟨g, cap, cur, rfl, hbg, hg, hnc, hcm, hcs, htake⟩
 ·have hr2 := run_append_nil (P := Try.prog) w 95 ty 83 i _ Try.underlying95 hi hz ⟨k, 0, none⟩ m c news (by rw [hs]; exact hl) hnews hm (by omega) (by first | omega | (rw [hby]; omega) | (rw [hby]; exact growslice_fits (n := 0) (by omega) (by omega)))
  rw [hr2] at hr
  cases hr
  exact ((Mo.refl w).drew.alloc _ _).2
 ·by_cases hroom : n + m ≤ cap
  ·have hr2 := run_append_room (P := Try.prog) w 95 ty 83 i Try.underlying95 hi g n cap cur hg ⟨k, 0, none⟩ m c news (by rw [hs]; exact hl) hnews h1 hroom (by rw [hs]; first | omega | (rw [hl]; omega) | (simp [hl]; omega))
   rw [hr2] at hr
   cases hr
   intro a
   by_cases e : a.block = g
   ·have h9 := setRow_heap w g cur (cur.toList.take (n * i.size) ++ news ++ cur.toList.drop (n * i.size + news.length)).toArray 83 (0, 0) hg
    simp only [World.frozen?, e, h9, hg]
   ·exact World.frozen?_of_block (setRow_other w g a.block _ e)
  ·have hr2 := run_append_grow (P := Try.prog) w 95 ty 83 i _ Try.underlying95 hi hz ⟨g, 0, none⟩ n cap xs (by rw [hs]; exact hown.1) (hown.cells (g := g) rfl) ⟨k, 0, none⟩ m c news (by rw [hs]; exact hl) hnews (by omega) (by omega) (by rw [hby]; exact growslice_fits (by omega) (by omega))
   rw [hr2] at hr
   cases hr
   exact ((Mo.refl w).drew.alloc _ _).2
theorem appk95 (w : World) (ty : TypeId) (N : Nat) (v : Value) (n : Nat) (xs : List Value) (hown : w.ownsRow N 83 2 v n xs) (k m c : Nat) (news : List Value) (hl : news.length = m * 2) (hA : At w k news) (h1 : ∀ u ∈ news, u.oneCell' = true) (hm : 0 < m) (hn : n + m ≤ 700000000000) (hN : N ≤ w.heap.size) :
  ∃ v' w', (Builtin.append_ #[95, 95] ty #[v, .slice (some ⟨k, 0, none⟩) m c]).run Try.prog w = .ok v' w' ∧ w'.ownsRow N 83 2 v' (n + m) (xs ++ news) ∧ AppW v w w' ∧ (v'.ownBlock = v.ownBlock ∨ v'.ownBlock = some w.heap.size) ∧ w'.ownsRow N 83 2 v n xs := by
 obtain ⟨v', w', hr, h2, h3, h5⟩ := app95 w ty N v n xs hown k m c news hl hA h1 hm hn hN
 refine ⟨v', w', hr, h2, h3, h5, ?_⟩
 obtain ⟨i, hi, hz, hs, hby⟩ := inf295
 have hnews : ∀ j u, news[j]? = some u → w.cell? ((⟨k, 0, none⟩ : Addr).add j) = some u := fun j u hu => by
  rw [Addr.add_mid]; have := hA.1 j u hu; simpa using this
 rcases hown.2 with ⟨rfl, rfl⟩ | ⟨g, cap, cur, rfl, hbg, hg, hnc, hcm, hcs, htake⟩
 ·exact ⟨hown.1, .inl ⟨rfl, rfl⟩⟩
 ·by_cases hroom : n + m ≤ cap
  ·have hr2 := run_append_room (P := Try.prog) w 95 ty 83 i Try.underlying95 hi g n cap cur hg ⟨k, 0, none⟩ m c news (by rw [hs]; exact hl) hnews h1 hroom (by rw [hs]; first | omega | (rw [hl]; omega) | (simp [hl]; omega))
   rw [hr2] at hr
   cases hr
   have h9 := setRow_heap w g cur (cur.toList.take (n * i.size) ++ news ++ cur.toList.drop (n * i.size + news.length)).toArray 83 (0, 0) hg
   rw [hs] at h9 ⊢
   have hsz : n * 2 + m * 2 ≤ cap * 2 := by rw [← Nat.add_mul]; exact Nat.mul_le_mul_right _ hroom
   have hcl : cur.toList.length = cap * 2 := by simpa using hcs
   refine ⟨hown.1, .inr ⟨g, cap, _, rfl, hbg, h9, hnc, hcm, ?_, ?_⟩⟩
   ·have : (cur.toList.take (n * 2) ++ news ++ cur.toList.drop (n * 2 + news.length)).length = cap * 2 := by
     rw [List.length_append, List.length_append, List.length_take, List.length_drop, hcl, hl]; omega
    simpa using this
   ·show (cur.toList.take (n * 2) ++ news ++ cur.toList.drop (n * 2 + news.length)).take (n * 2) = xs
    rw [List.append_assoc, List.take_append_of_le_length (by rw [List.length_take]; omega), List.take_take, Nat.min_self]; exact htake
  ·have hr2 := run_append_grow (P := Try.prog) w 95 ty 83 i _ Try.underlying95 hi hz ⟨g, 0, none⟩ n cap xs (by rw [hs]; exact hown.1) (hown.cells (g := g) rfl) ⟨k, 0, none⟩ m c news (by rw [hs]; exact hl) hnews (by omega) (by omega) (by rw [hby]; exact growslice_fits (by omega) (by omega))
   rw [hr2] at hr
   cases hr
   exact own_mo95 hown ((Mo.refl w).drew.alloc _ _)
section
variable {o : Oper} {n : Nat} {l : List (Nat × Value)} {w : World} {ops : Array Oper} {rest : List Oper} {Q : Exit → Act → World → Prop} {K : Act → World → Prop}
theorem wo_app95 (s x : Operand) (N : Nat) (v : Value) (q : Nat) (xs : List Value) (k m c : Nat) (news : List Value) (ho : o.op = .call { callee := .builtin .append, args := #[s, x], argTypes := #[95, 95] }) (hs : evl n l s = v) (hx : evl n l x = .slice (some ⟨k, 0, none⟩) m c)
  (hown : w.ownsRow N 83 2 v q xs) (hl : news.length = m * 2) (hA : At w k news) (h1 : ∀ u ∈ news, u.oneCell' = true) (hm : 0 < m) (hn : q + m ≤ 700000000000) (hN : N ≤ w.heap.size)
  (hk : ∀ v' w', w'.ownsRow N 83 2 v' (q + m) (xs ++ news) → AppW v w w' → w'.ownsRow N 83 2 v q xs → (v'.ownBlock = v.ownBlock ∨ v'.ownBlock = some w.heap.size) → K (fr n (ext l o.dst v')) w') : WO Try.prog o n l w K Q := by
 obtain ⟨v', w', hr, h2, h3, h6, h5⟩ := appk95 w o.type N v q xs hown k m c news hl hA h1 hm hn hN
 refine ⟨o_val v' (w' := w') ?_ (hk v' w' h2 h3 h5 h6)⟩
 unfold execOp
 simp only [ho, resolve, invoke, builtin, Sem.run_bind, Sem.run_pure, Result.andThen_ok, List.map_toArray, List.map_cons, List.map_nil, hs, hx, hr]
end
theorem own_st295 {w w' : World} {N k : Nat} {v : Value} {n : Nat} {xs : List Value} (h : w.ownsRow N 83 2 v n xs) (m : St2 k w w') (hne : v.ownBlock ≠ some k) : w'.ownsRow N 83 2 v n xs :=
 h.kept (row := some k) ⟨m.os, m.tape, m.output, Nat.le_of_eq m.size.symm, fun j _ hj => m.block j (fun e => hj (by rw [e]))⟩ (Or.inr hne)
theorem own_grown95 {w w' : World} {row : Option Nat} {N : Nat} {v : Value} {n : Nat} {xs : List Value} (h : w.ownsRow N 83 2 v n xs) (hg : w.grownBy w' row) (hr : ∀ r, row = some r → ∃ o : Obj, w.heap[r]? = some o ∧ o.isCells = false) : w'.ownsRow N 83 2 v n xs :=
 h.kept hg (by
  rcases h.2 with ⟨rfl, _⟩ | ⟨g, cap, cur, rfl, _, hg0, _⟩
  ·exact Or.inl rfl
  ·refine Or.inr (fun e => ?_)
   obtain ⟨o, ho, hc⟩ := hr g e.symm
   rw [hg0] at ho; cases ho; cases hc)
end G
end Go.Proofs.Ythfemlhmnjfjiaa
/-
 rows: copies of all rows.
-/
namespace Go.Proofs.Ythfemlhmnjfjiaa
open Go.RowKit
namespace G
section
variable {P : Program} {n : Nat} {l : List (Nat × Value)} {w : World} {Q : Exit → Act → World → Prop}
theorem R.w_ogc {ro : Option Nat} {m0 : Nat} {ds : List Deferred} {id : Nat} {ops : List Oper} (m : Nat) (G : World → Prop) (sp : List (Value → World → Prop)) (fs : List Nat) (hm : P.follows .mixedOrders = true)
  (hb : edgesBack .any ops.toArray = true) (hd : dstsApart (ops.take m) = true) (hc : chainB ops m fs = true) (hl : Nat.ble m ops.length = true) (hf : floatB ops m fs = true) (hns : Region.noSelect ops.toArray = true) (hnd : ops.toArray.all R.notDefer = true)
  (hlate : ∀ i, i ∈ fs → LateC P ops (R.Wd ds Q) n l m sp i) (hG : G w.drew) (hs : Each (OgC P ops (R.Wd ds Q) n l m G sp) 0 (ops.take m))
  (hend : ∀ f w', G w' → (∀ i, Nat.blt i m = true → spQ sp i (f i) w') → WL P ops.toArray (R.Wd ds Q) (ops.drop m) n (asg f 0 (ops.take m) l) w') : R.RC ro m0 ds P (Code.region id ops.toArray true) Q n l w :=
 ⟨wpIn_region_any hm (R.any_in hnd _ _ _ _ (a_ogc m G sp fs hb hd hc hl hf hns hlate hG hs hend))⟩
end
def rws (Z : List (Py × Value)) : List Value := Z.flatMap (fun z => [.int .i64 z.1.i, z.2])
theorem rws_len : ∀ Z : List (Py × Value), (rws Z).length = Z.length * 2
 | [] => rfl
 | z :: Z => by
  have := rws_len Z
  unfold rws at this ⊢
  rw [List.flatMap_cons, List.length_append, this]
  simp only [List.length_cons, List.length_nil]; omega
theorem rws_at : ∀ (Z : List (Py × Value)) (i : Nat) (z : Py × Value), Z[i]? = some z → ∀ j v, ([.int .i64 z.1.i, z.2] : List Value)[j]? = some v → (rws Z)[i * 2 + j]? = some v
 | [], _, _, h, _, _, _ => by cases h
 | T :: Z, 0, S, h, j, v, hv => by
  cases h
  have hj : j < 2 := (List.getElem?_eq_some_iff.1 hv).1
  unfold rws
  rw [List.flatMap_cons, List.getElem?_append_left (by show _ < 2; omega), Nat.zero_mul, Nat.zero_add]; exact hv
 | T :: Z, i + 1, S, h, j, v, hv => by
  have := rws_at Z i S h j v hv
  unfold rws at this ⊢
  rw [List.flatMap_cons, List.getElem?_append_right (by show 2 ≤ _; omega), show (i + 1) * 2 + j - ([.int .i64 T.1.i, T.2] : List Value).length = i * 2 + j from by show (i + 1) * 2 + j - 2 = _; omega]; exact this
def pb (p : Option Addr) (k : Nat) : Prop := ∃ off, p = some ⟨k, off, none⟩
def RA (w : World) (p : Option Addr) (Z : List (Py × Value)) : Prop := ∀ i z, Z[i]? = some z → ∃ b off, p = some ⟨b, off, none⟩ ∧ b < w.heap.size ∧ w.rangeAt b (off + i * 2) [.int .i64 z.1.i, z.2]
def RV (w : World) (Z : List (Py × Value)) : Prop := ∀ z ∈ Z, Rw w 10 z.2 (z.1.vs.map V10.cells)
theorem own_ra {w : World} {N : Nat} {v : Value} {n : Nat} {Z : List (Py × Value)} (h : w.ownsRow N 83 2 v n (rws Z)) : ∃ pa cap, v = .slice pa Z.length cap ∧ RA w pa Z ∧ (∀ k, pb pa k → N ≤ k ∧ k < w.heap.size) := by
 have h0 := h
 have hn : n = Z.length := by have := h.1; rw [rws_len] at this; omega
 subst hn
 rcases h.2 with ⟨hv, h2⟩ | ⟨g, cap, cur, hv, hbg, hg, hnc, hcm, hcs, htake⟩
 ·subst hv
  have : Z = [] := List.length_eq_zero_iff.1 (by omega)
  subst this
  exact ⟨none, 0, rfl, fun _ _ e => (by cases e), fun k ⟨_, e⟩ => by cases e⟩
 ·subst hv
  refine ⟨some ⟨g, 0, none⟩, cap, rfl, fun i S e => ⟨g, 0, rfl, (h0.lt g rfl).2, fun j v hv => ?_⟩, fun k ⟨_, e⟩ => by cases e; exact h0.lt g rfl⟩
  have hx := rws_at Z i S e j v hv
  have hlt : i * 2 + j < (rws Z).length := (List.getElem?_eq_some_iff.1 hx).1
  rw [Nat.zero_add, h0.cellAt (i * 2 + j) (by rw [rws_len] at hlt; exact hlt)]; exact hx
theorem vss_ne (L : List V10) : ∀ cs ∈ L.map V10.cells, cs ≠ [] := fun cs hc => by obtain ⟨z, _, rfl⟩ := List.mem_map.1 hc; intro q; cases q
theorem Rw.grown {W W' : World} {row : Option Nat} {h : Value} {L : List V10} (r : Rw W 10 h (L.map V10.cells)) (hg : W.grownBy W' row) (hr : ∀ r, row = some r → ∃ o : Obj, W.heap[r]? = some o ∧ o.isCells = false) : Rw W' 10 h (L.map V10.cells) :=
 r.kd (fun b hb => by
  obtain ⟨o, v, hc⟩ := r.has (vss_ne L) hb
  obtain ⟨o', ho, hcc⟩ := cells_of_cell hc
  exact grownBy_keeps_cells hg hr ho hcc)
theorem AppW.rw {v : Value} {w w' : World} (h : AppW v w w') {u : Value} {L : List (List Value)} (r : Rw w 10 u L) (hu : ∀ b, ob u = some b → v.ownBlock ≠ some b) : Rw w' 10 u L :=
 r.kd (fun b hb => h.block b (r.lt hb) (hu b hb))
theorem Rw.rows {w : World} {m : Nat} {p : Option Addr} {c : Nat} {L : List (List Value)} (r : Rw w m (.slice p L.length c) L) : ∀ k cs, L[k]? = some cs → ∃ b off, p = some ⟨b, off, none⟩ ∧ b < w.heap.size ∧ w.rangeAt b (off + k * m) cs := fun k cs hk => by
 obtain ⟨b, off, cap, e, h2, _, h4, _⟩ := r.ix hk
 rw [Value.slice.injEq] at e
 exact ⟨b, off, e.1, h2, h4⟩
theorem mf1 (g : FuncId) (ρ : Operand → Value) (x : Operand) (v : Value) (hx : ρ x = v) (dst : Option Tmp) (type : TypeId) (pos : String) (after : Array Edge) (guard : Option (Nat × Bool)) (w : World) : (execOp ρ { dst, op := .makeFunc (.func g) #[x] #[], type, pos, after, guard }).run Try.prog w = .ok (.value (.func (.func g) #[v] #[])) w := by
 subst hx; simp [execOp, Instr.makeFunc]
theorem mf2 (g : FuncId) (ρ : Operand → Value) (x : Operand) (v : Value) (hx : ρ x = v) (dst : Option Tmp) (type : TypeId) (pos : String) (after : Array Edge) (guard : Option (Nat × Bool)) (w : World) : (execOp ρ { dst, op := .makeFunc (.func g) #[] #[x], type, pos, after, guard }).run Try.prog w = .ok (.value (.func (.func g) #[] #[v])) w := by
 subst hx; simp [execOp, Instr.makeFunc]
theorem keeps_app {B : Nat} {W w1 w2 : World} {v : Value} {N n k : Nat} {xs : List Value} {u : Value} {us : List Value} (hown : W.ownsRow N 83 2 v n xs) (h : AppW v W w1) (s : St2 k w1 w2) (Q : At W k (u :: us)) : KeepsFrom B W w2 :=
 ⟨by rw [s.size]; exact h.size, fun j o _ hj ho => by
  have hlt := (Array.getElem?_eq_some_iff.1 hj).1
  have hjk : j ≠ k := R.dk_ne hj ho Q
  have hjv : v.ownBlock ≠ some j := fun e => by
   rcases hown.2 with ⟨rfl, _⟩ | ⟨g, cap, cur, rfl, _, hg0, _⟩
   ·cases e
   ·cases e; rw [hg0] at hj; cases hj; cases ho
  exact (s.block j hjk).trans ((h.block j hlt hjv).trans hj)⟩
theorem zs95 : (Try.prog.info? 95).map (·.size) = some 1 := by kernel_rfl
section
variable {o : Oper} {n : Nat} {l : List (Nat × Value)} {w : World} {ops : Array Oper} {rest : List Oper} {Q : Exit → Act → World → Prop} {K : Act → World → Prop}
theorem wl_make95 (x y : Operand) (N c : Nat) (ho : o.op = .makeSlice 95 x y) (hx : evl n l x = .int .i64 0) (hy : evl n l y = .int .i64 (c : Int)) (hc : c ≤ 1000000000) (hN : N ≤ w.heap.size) (hg : wnt n l ops o = true)
  (hk : ∀ k w', w.heap.size = k → w'.heap.size = k + 1 → Mo w w' → w'.ownsRow N 83 2 (.slice (some ⟨k, 0, none⟩) 0 c) 0 [] → WL Try.prog ops Q rest n (ext l o.dst (.slice (some ⟨k, 0, none⟩) 0 c)) w') : WL Try.prog ops Q (o :: rest) n l w := by
 obtain ⟨i, hi, hz, hs, hby⟩ := inf295
 have hr := run_make (P := Try.prog) w 95 83 i _ Try.underlying95 hi hz .i64 .i64 0 c (Int.le_refl _) (by omega) (by rw [hby]; omega) (by omega)
 simp only [Int.toNat_zero, Int.toNat_natCast, hs] at hr
 refine ⟨l_step hg (o_val (.slice (some ⟨w.heap.size, 0, none⟩) 0 c) (w' := w.alloc (.cells (madeCells (Value.agg #[.int .i64 0, .slice none 0 0]).cells (c * 2)) 83)) (by simp only [execOp, ho, hx, hy]; simp [hr]) (hk _ _ rfl (by simp) ((Mo.refl _).alloc _ _) (World.ownsRow_made w _ c hN (by unfold maxLen; omega) (size_madeCells _ _))).out)⟩
theorem bs95 (x : Int) (u : Value) (h1 : ∃ p n c, u = Value.slice p n c) (w : World) : (Instr.buildSlice 95 1 #[(0, .agg #[.int .i64 x, u])]).run Try.prog w = .ok (.slice (some ⟨w.heap.size, 0, none⟩) 1 1) (w.alloc (.cells #[.int .i64 x, u] 83)) := by
 obtain ⟨p, n, c, rfl⟩ := h1; kernel_rfl
theorem wo_bs95 (x : Operand) (i : Int) (u : Value) (h1 : ∃ p n c, u = Value.slice p n c) (ho : o.op = .buildSlice 95 1 #[(0, x)]) (hx : evl n l x = .agg #[.int .i64 i, u])
  (hk : ∀ k w', w.heap.size = k → w'.heap.size = k + 1 → Mo w w' → At w' k [.int .i64 i, u] → K (fr n (ext l o.dst (.slice (some ⟨k, 0, none⟩) 1 1))) w') : WO Try.prog o n l w K Q :=
 ⟨o_val (.slice (some ⟨w.heap.size, 0, none⟩) 1 1) (w' := w.alloc (.cells #[.int .i64 i, u] 83)) (by
  have h := bs95 i u h1 w
  simp [execOp, ho, hx, h]) (hk _ _ rfl (by simp) ((Mo.refl _).alloc _ _) (At.new w #[.int .i64 i, u] 83))⟩
end
namespace R
theorem bld83 (i : Int) (u : Value) (h : ∃ p n c, u = Value.slice p n c) (w : World) : (Instr.build 83 #[(0, .int .i64 i), (1, u)]).run Try.prog w = .ok (.agg #[.int .i64 i, u]) w := by
 obtain ⟨p, n, c, rfl⟩ := h; kernel_rfl
theorem rows_n {t : Nat} {mb : Hd} {D : Nat → Prop} {w : World} {lk : Int} {tr : T} (hF : FT D w t mb tr lk) : Calls Try.prog 41 #[pt t 0] w fun e w' => ∃ (p : Option Addr) (cap : Nat) (Z : List (Py × Value)), e = .returned (.slice p Z.length cap) ∧ Z.map (·.1) = tr.ids ∧ RA w' p Z ∧ RV w' Z ∧ (∀ k, pb p k → w.heap.size ≤ k ∧ k < w'.heap.size) ∧ (∀ z ∈ Z, ∀ b, ob z.2 = some b → w.heap.size ≤ b ∧ b < w'.heap.size) ∧ Mo w w' := by
 obtain ⟨R, root, hS, hAp, hC, hR, hn⟩ := hF.ts
 have hC0 : root = tr.p := hC
 subst hC0
 have hM := hF.om
 have hnd := hF.nd
 have hle : tr.kv.length ≤ 1024 := by have := hF.le; have := T.kv_len tr; omega
 obtain ⟨KV, hKV⟩ := lift_list tr.ky (rep_rx hR)
 have hkl : KV.length = tr.kv.length := by rw [T.ky_kv, ← hKV]; simp
 have hDlt : ∀ j, D j → j < w.heap.size := fun j hj => hS.lt hj
 have hslt : ∀ b, ob mb.h = some b → b < w.heap.size := fun b e => hS.sc.lt e
 refine calls_of (m := 9) (w_enter 30 Try.func41 Try.ntmps41 rfl rfl ?_)
 have M : Mo w w := Mo.refl _
 refine w_seq (w_reg ?_)
 refine wl_m (.const (.slice none 0 0)) (.slice none 0 0) ?_
 refine w_nil (xn_then (w_seq (w_seq (w_reg ?_))))
 refine wl_m (.tmp 0) (pt t 0) ?_
 refine wl_call 30 [(.tmp 5)] _ [pt t 0] (.bool true) rfl rfl (fun _ _ => by kernel_rfl) (made_n hS) rfl ?_
 intro w1 hq
 replace hS := hS.mo hq
 replace hM := hM.mo hq
 replace M := M.trans hq
 clear hq
 refine wl_un (fun v => Op.unary .not v) (.tmp 6) (.bool true) (.bool false) (fun _ => rfl) rfl (by kernel_rfl) rfl ?_
 refine w_nil (xn_then (w_condF rfl (w_skip (xn_then (w_seq (w_reg ?_))))))
 refine wl_m (.tmp 0) (pt t 0) ?_
 refine wl_call 10 [(.tmp 8)] _ [pt t 0] (.int .i64 ((tr.kv.length : Int))) rfl rfl (fun _ _ => by kernel_rfl) (len_n hS hM) rfl ?_
 intro w2 hq
 replace hS := hS.mo hq
 replace hM := hM.mo hq
 replace M := M.trans hq
 clear hq
 refine wl_make95 (.const (.int .i64 (0))) (.tmp 9) w.heap.size tr.kv.length rfl rfl rfl (by omega) M.size rfl ?_
 intro g0 w3 hk hz hq hown
 replace hS := hS.mo hq
 replace hM := hM.mo hq
 replace M := M.trans hq
 clear hk hz hq
 clear hM
 refine wl_alloc 95 #[.slice none 0 0] rfl (fun _ => by kernel_rfl) rfl ?_
 intro k1 w4 hk hz hq Q1
 have on_k1 : (Value.slice (some ⟨g0, 0, none⟩) 0 tr.kv.length).ownBlock ≠ some k1 := fun e => by have := (hown.lt _ e).2; omega
 have N_k1 : w.heap.size ≤ k1 := by have := M.size; omega
 replace hS := hS.mo hq
 replace hown := own_mo95 hown hq
 replace M := M.trans hq
 clear hk hz hq
 have nd_k1 : ¬ Dh D mb k1 := fun e => by rcases e with e | e; (have := hDlt _ e; omega); (have := hslt _ e; omega)
 refine wl_st1x 95 (.tmp 3) (.tmp 10) k1 0 (.slice (some ⟨g0, 0, none⟩) 0 tr.kv.length) _ [.slice (some ⟨g0, 0, none⟩) 0 tr.kv.length] Q1 rfl rfl rfl rfl rfl zs95 rfl rfl rfl rfl ?_
 intro w5 hT Qn
 replace Q1 := Qn
 clear Qn
 replace hS := hS.kd (fun j hj => hT.block j (fun e => nd_k1 (e ▸ hj)))
 replace M := (Mk.refl (fun j => j = k1) _ |>.st hT rfl).mo M (fun _ e => e ▸ N_k1)
 replace hown := own_st295 hown hT on_k1
 clear hT
 refine w_nil (xn_then (w_seq (w_seq (w_reg ?_))))
 refine wl_m (.tmp 0) (pt t 0) ?_
 refine wl_val (.func (.func 56) #[pt t 0] #[]) (mf1 56 _ _ _ (by exact rfl) _ _ _ _ _ _) rfl ?_
 refine w_nil (xn_then (w_block ?_))
 have hNR : w.heap.size ≤ w5.heap.size := M.size
 refine w_rf 56 #[pt t 0] #[] rfl (fun _ _ => by kernel_rfl) (fun x : Rx R => #[pt x.1.2 0]) (Kd (Dh D mb)) (fun xs => xs = KV) (fun pre => ∃ i : Nat, 0 < i ∧ i ≤ KV.length ∧ pre = KV.take i) KV.length (io_seq hS hAp hC hR hn hnd hKV) Kd.tr (fun W l o o' hl _ _ _ k hk => World.putObj_heap_other (by rcases hk with hk | hk; (have := hDlt k hk; omega); (have := hslt k hk; omega))) (fun _ => rfl) (fun pre W => ∃ (v : Value) (Z : List (Py × Value)), Z.map (·.1) = pre.map (fun x : Rx R => x.1.1) ∧ At W k1 [v] ∧ W.ownsRow w.heap.size 83 2 v pre.length (rws Z) ∧ v.ownBlock ≠ some k1 ∧ RV W Z ∧ (∀ z ∈ Z, ∀ b, ob z.2 = some b → w.heap.size ≤ b ∧ b < W.heap.size ∧ b ≠ k1 ∧ v.ownBlock ≠ some b) ∧ HS D W t mb R tr.p lk ∧ Mo w W) (fun _ _ _ => False) ?hI (fun _ _ _ _ _ h _ _ _ => h) ⟨_, [], rfl, Q1, hown, on_k1, (fun _ e => by cases e), (fun _ e => by cases e), hS, M⟩ _ ?lx (fun x => frps1 13 _) ?assign ?body ?done (fun _ _ _ _ _ _ h _ => h.elim)
 case hI => exact fun s9 W W' row ⟨v, Z, h0, h1, h2, h3, h6, h7, h4, h5⟩ hg hf hr => ⟨v, Z, h0, At.grown h1 hg (fun r e => (hr r e).2), own_grown95 h2 hg (fun r e => (hr r e).2), h3, fun z hz => (h6 z hz).grown hg (fun r e => (hr r e).2), fun z hz b hb => ⟨(h7 z hz b hb).1, Nat.lt_of_lt_of_le (h7 z hz b hb).2.1 hg.size, (h7 z hz b hb).2.2⟩, h4.grown hg (fun r e => (hr r e).2), own_moF hNR s9 W W' row h5 hg hf hr⟩
 case assign =>
  intro lp x W K hK
  refine w_reg ?_
  refine wl_m (.tmp 13) (pt x.1.2 0) ?_
  refine w_nil ?_
  exact hK
 case body =>
  rintro lp pre x W ⟨v, Z, hZ, Q1, hown, on_k1, hRV, hnew, hS, M⟩ hlen
  obtain ⟨r9, hrx, hri⟩ := x.2
  have hAr := hS.rc _ _ hrx
  have hdx := hS.dk hrx
  have hRw := (hS.sv _ _ hrx).1
  have hvl := (hS.sv _ _ hrx).2.1
  have hnc := hS.nc
  obtain ⟨pv, cv, hrv, _⟩ := hRw
  replace hRw := (hS.sv _ _ hrx).1
  have hvD : ∀ j, Dh D mb j → v.ownBlock ≠ some j := fun j hj e => by have := (hown.lt j e).1; rcases hj with hj | hj; (have := hDlt j hj; omega); (have := hslt j hj; omega)
  have hvb : ∀ k, v.ownBlock = some k → k < W.heap.size := fun k e => (hown.lt k e).2
  have hub : ∀ b, ob r9.i.v = some b → v.ownBlock ≠ some b := fun b hb => hvD b (Or.inl (hS.ds hrx (Or.inl hb)).1)
  have hpl : pre.length < 1025 := by omega
  have hMs := M.size
  refine w_block ?_
  have hsm : Smos [vq v, vq (pt x.1.2 0), vq (pt x.1.2 0), vq (pt x.1.2 0), vq (pt x.1.2 0), vq (.int .i64 r9.i.i), vq (pt x.1.2 0), vq (pt x.1.2 0), vq (pt x.1.2 0), vq (pt x.1.2 1), vq r9.i.v, fun u w9 => Rw w9 10 u (r9.i.vs.map V10.cells) ∧ (∀ b, ob u = some b → W.heap.size ≤ b ∧ b < w9.heap.size) ∧ (∃ p n c, u = Value.slice p n c), fun a w9 => ∃ u, a = .agg #[.int .i64 r9.i.i, u] ∧ Rw w9 10 u (r9.i.vs.map V10.cells) ∧ (∀ b, ob u = some b → W.heap.size ≤ b ∧ b < w9.heap.size) ∧ (∃ p n c, u = Value.slice p n c), fun a w9 => ∃ k u, a = .slice (some ⟨k, 0, none⟩) 1 1 ∧ W.heap.size ≤ k ∧ At w9 k [.int .i64 r9.i.i, u] ∧ Rw w9 10 u (r9.i.vs.map V10.cells) ∧ (∀ b, ob u = some b → W.heap.size ≤ b ∧ b < w9.heap.size) ∧ (∃ p n c, u = Value.slice p n c), fun a w9 => ∃ u, w9.ownsRow w.heap.size 83 2 a (pre.length + 1) (rws Z ++ [.int .i64 r9.i.i, u]) ∧ a.ownBlock ≠ some k1 ∧ (∀ b, ob u = some b → a.ownBlock ≠ some b) ∧ (∀ b, b < W.heap.size → v.ownBlock ≠ some b → a.ownBlock ≠ some b) ∧ Rw w9 10 u (r9.i.vs.map V10.cells) ∧ (∀ b, ob u = some b → W.heap.size ≤ b ∧ b < w9.heap.size) ∧ (∃ p n c, u = Value.slice p n c)] := smos_cons (smo_vq _) (smos_cons (smo_vq _) (smos_cons (smo_vq _) (smos_cons (smo_vq _) (smos_cons (smo_vq _) (smos_cons (smo_vq _) (smos_cons (smo_vq _) (smos_cons (smo_vq _) (smos_cons (smo_vq _) (smos_cons (smo_vq _) (smos_cons (smo_vq _) (smos_cons (fun u a b h m => ⟨h.1.mo m, fun b hb => ⟨(h.2.1 b hb).1, Nat.lt_of_lt_of_le (h.2.1 b hb).2 m.size⟩, h.2.2⟩) (smos_cons (fun z a b ⟨u, e, h⟩ m => ⟨u, e, ⟨h.1.mo m, fun b hb => ⟨(h.2.1 b hb).1, Nat.lt_of_lt_of_le (h.2.1 b hb).2 m.size⟩, h.2.2⟩⟩) (smos_cons (fun z a b ⟨k, u, e, e2, hA, h⟩ m => ⟨k, u, e, e2, hA.mo m, ⟨h.1.mo m, fun b hb => ⟨(h.2.1 b hb).1, Nat.lt_of_lt_of_le (h.2.1 b hb).2 m.size⟩, h.2.2⟩⟩) (smos_cons (fun z a b ⟨u, e, e2, e3, e4, h⟩ m => ⟨u, own_mo95 e m, e2, e3, e4, ⟨h.1.mo m, fun b hb => ⟨(h.2.1 b hb).1, Nat.lt_of_lt_of_le (h.2.1 b hb).2 m.size⟩, h.2.2⟩⟩) (smos_nil)))))))))))))))
  have hgr : ∀ a b : World, (fun w9 => AppW v W w9 ∧ w9.ownsRow w.heap.size 83 2 v pre.length (rws Z)) a → Mo a b → (fun w9 => AppW v W w9 ∧ w9.ownsRow w.heap.size 83 2 v pre.length (rws Z)) b := fun a b h m => ⟨h.1.grow m, own_mo95 h.2 m⟩
  refine w_ogc 15 (fun w9 => AppW v W w9 ∧ w9.ownsRow w.heap.size 83 2 v pre.length (rws Z)) [vq v, vq (pt x.1.2 0), vq (pt x.1.2 0), vq (pt x.1.2 0), vq (pt x.1.2 0), vq (.int .i64 r9.i.i), vq (pt x.1.2 0), vq (pt x.1.2 0), vq (pt x.1.2 0), vq (pt x.1.2 1), vq r9.i.v, fun u w9 => Rw w9 10 u (r9.i.vs.map V10.cells) ∧ (∀ b, ob u = some b → W.heap.size ≤ b ∧ b < w9.heap.size) ∧ (∃ p n c, u = Value.slice p n c), fun a w9 => ∃ u, a = .agg #[.int .i64 r9.i.i, u] ∧ Rw w9 10 u (r9.i.vs.map V10.cells) ∧ (∀ b, ob u = some b → W.heap.size ≤ b ∧ b < w9.heap.size) ∧ (∃ p n c, u = Value.slice p n c), fun a w9 => ∃ k u, a = .slice (some ⟨k, 0, none⟩) 1 1 ∧ W.heap.size ≤ k ∧ At w9 k [.int .i64 r9.i.i, u] ∧ Rw w9 10 u (r9.i.vs.map V10.cells) ∧ (∀ b, ob u = some b → W.heap.size ≤ b ∧ b < w9.heap.size) ∧ (∃ p n c, u = Value.slice p n c), fun a w9 => ∃ u, w9.ownsRow w.heap.size 83 2 a (pre.length + 1) (rws Z ++ [.int .i64 r9.i.i, u]) ∧ a.ownBlock ≠ some k1 ∧ (∀ b, ob u = some b → a.ownBlock ≠ some b) ∧ (∀ b, b < W.heap.size → v.ownBlock ≠ some b → a.ownBlock ≠ some b) ∧ Rw w9 10 u (r9.i.vs.map V10.cells) ∧ (∀ b, ob u = some b → W.heap.size ≤ b ∧ b < w9.heap.size) ∧ (∃ p n c, u = Value.slice p n c)] [] (by kernel_rfl) (by kernel_rfl) (by kernel_rfl) (by kernel_rfl) rfl (by kernel_rfl) (by kernel_rfl) (by kernel_rfl) latec_nil ⟨AppW.refl _ _, own_mo95 hown ((Mo.refl _).drew)⟩ ?_ ?_
  ·refine ea_cons ?_ (ea_cons ?_ (ea_cons ?_ (ea_cons ?_ (ea_cons ?_ (ea_cons ?_ (ea_cons ?_ (ea_cons ?_ (ea_cons ?_ (ea_cons ?_ (ea_cons ?_ (ea_cons ?_ (ea_cons ?_ (ea_cons ?_ (ea_cons ?_ (ea_nil)))))))))))))))
   ·exact oc_eq _ rfl hgr hsm (fun f wf hG hd K hK => have Q1 := hG.1.at Q1 on_k1; go_run rfl (wo_load 95 (.tmp 3) (pt k1 0) v rfl rfl (run_one Q1 95 0 rfl Try.underlying95 rfl) (hK _ (Mo.refl _))))
   ·exact oc_eq _ rfl hgr hsm (fun f wf hG hd K hK => go_run rfl (wo_mv (.tmp 4) (pt x.1.2 0) (fun _ => rfl) rfl (hK _ (Mo.refl _))))
   ·exact oc_eq _ rfl hgr hsm (fun f wf hG hd K hK => go_run rfl (wo_nc (.tmp 15) x.1.2 0 rfl (hd 1 rfl) (hK _ (Mo.refl _))))
   ·exact oc_eq _ rfl hgr hsm (fun f wf hG hd K hK => go_run rfl (wo_un (fun v => Instr.fieldAt 93 v 0) (.tmp 16) (pt x.1.2 0) (pt x.1.2 0) (fun _ => rfl) (hd 2 rfl) (by kernel_rfl) (hK _ (Mo.refl _))))
   ·exact oc_eq _ rfl hgr hsm (fun f wf hG hd K hK => go_run rfl (wo_un (fun v => Instr.fieldAt 83 v 0) (.tmp 17) (pt x.1.2 0) (pt x.1.2 0) (fun _ => rfl) (hd 3 rfl) (by kernel_rfl) (hK _ (Mo.refl _))))
   ·exact oc_eq _ rfl hgr hsm (fun f wf hG hd K hK => have hA9 := hG.1.at hAr (hvD _ (Or.inl hdx)); go_run rfl (wo_load 2 (.tmp 18) (pt x.1.2 0) (.int .i64 r9.i.i) rfl (hd 4 rfl) (run_one hA9 2 0 rfl Try.underlying2 rfl) (hK _ (Mo.refl _))))
   ·exact oc_eq _ rfl hgr hsm (fun f wf hG hd K hK => go_run rfl (wo_mv (.tmp 4) (pt x.1.2 0) (fun _ => rfl) rfl (hK _ (Mo.refl _))))
   ·exact oc_eq _ rfl hgr hsm (fun f wf hG hd K hK => go_run rfl (wo_nc (.tmp 20) x.1.2 0 rfl (hd 6 rfl) (hK _ (Mo.refl _))))
   ·exact oc_eq _ rfl hgr hsm (fun f wf hG hd K hK => go_run rfl (wo_un (fun v => Instr.fieldAt 93 v 0) (.tmp 21) (pt x.1.2 0) (pt x.1.2 0) (fun _ => rfl) (hd 7 rfl) (by kernel_rfl) (hK _ (Mo.refl _))))
   ·exact oc_eq _ rfl hgr hsm (fun f wf hG hd K hK => go_run rfl (wo_un (fun v => Instr.fieldAt 83 v 1) (.tmp 22) (pt x.1.2 0) (pt x.1.2 1) (fun _ => rfl) (hd 8 rfl) (by kernel_rfl) (hK _ (Mo.refl _))))
   ·exact oc_eq _ rfl hgr hsm (fun f wf hG hd K hK => have hA9 := hG.1.at hAr (hvD _ (Or.inl hdx)); go_run rfl (wo_load 29 (.tmp 23) (pt x.1.2 1) (r9.i.v) rfl (hd 9 rfl) (run_one hA9 29 1 rfl Try.underlying29 rfl) (hK _ (Mo.refl _))))
   ·refine ⟨fun f wf hG hd K hK => ?_⟩
    have hRf := hG.1.rw hRw hub
    rw [hrv] at hRf
    refine go_run rfl (wo_callx 22 [(.tmp 24)] _ [.slice pv (r9.i.vs.map V10.cells).length cv] rfl (li1 ((hd 10 rfl).trans hrv)) (fun _ _ => by kernel_rfl) (clv_n (fun z hz => by obtain ⟨y, _, rfl⟩ := List.mem_map.1 hz; rfl) hRf.rows (by rw [List.length_map]; omega)) (fun e9 w9 ⟨p9, c9, he, h1, h2, hq⟩ => ⟨_, he, hK _ w9 (hgr _ _ hG hq) ⟨h1, fun b hb => ⟨Nat.le_trans hG.1.size (h2 b hb), h1.lt hb⟩, ⟨_, _, _, rfl⟩⟩ (fun j u _ hr => hsm j u _ _ hr hq)⟩))
   ·refine ⟨fun f wf hG hd K hK => ?_⟩
    have h11 := hd 11 rfl
    refine go_run rfl (wo_build 83 [(0, (.tmp 19)), (1, (.tmp 25))] [(0, .int .i64 r9.i.i), (1, f 11)] (.agg #[.int .i64 r9.i.i, f 11]) rfl (lp2 (hd 5 rfl) rfl) (bld83 _ _ h11.2.2 _) (hK _ _ hG ⟨f 11, rfl, h11⟩ (fun j u _ hr => hr)))
   ·refine ⟨fun f wf hG hd K hK => ?_⟩
    obtain ⟨u9, e9, h9⟩ := hd 12 rfl
    exact go_run rfl (wo_bs95 (.tmp 26) r9.i.i u9 h9.2.2 rfl e9 (fun k w9 hk _ hq hA => hK _ w9 (hgr _ _ hG hq) ⟨k, u9, rfl, by have := hG.1.size; omega, hA, h9.1.mo hq, fun b hb => ⟨(h9.2.1 b hb).1, Nat.lt_of_lt_of_le (h9.2.1 b hb).2 hq.size⟩, h9.2.2⟩ (fun j u _ hr => hsm j u _ _ hr hq)))
   ·refine ⟨fun f wf hG hd K hK => ?_⟩
    obtain ⟨k9, u9, e9, h9, hA9, hU⟩ := hd 13 rfl
    have hk1l := (hG.1.at Q1 on_k1).lt
    have hGs := hG.1.size
    have hapart : ∀ a : Value, a.ownBlock = v.ownBlock ∨ a.ownBlock = some wf.heap.size → a.ownBlock ≠ some k1 ∧ (∀ b, ob u9 = some b → a.ownBlock ≠ some b) ∧ ∀ b, b < W.heap.size → v.ownBlock ≠ some b → a.ownBlock ≠ some b := fun a h4 => ⟨fun e => by rcases h4 with h | h; (exact on_k1 (h.symm.trans e)); (rw [h] at e; cases e; omega), fun b hb e => by have hb2 := hU.2.1 b hb; rcases h4 with h | h; (have := hvb b (h.symm.trans e); omega); (rw [h] at e; cases e; omega), fun b hb hne e => by rcases h4 with h | h; (exact hne (h.symm.trans e)); (rw [h] at e; cases e; omega)⟩
    refine go_run rfl (wo_app95 (.tmp 14) (.tmp 27) w.heap.size v pre.length (rws Z) k9 1 1 [.int .i64 r9.i.i, u9] rfl (hd 0 rfl) e9 hG.2 rfl hA9 (fun u hu => by rcases List.mem_cons.1 hu with rfl | hu; rfl; rw [List.mem_singleton.1 hu]; obtain ⟨_, _, _, e⟩ := hU.2.2; rw [e]; rfl) (by decide) (by omega) (Nat.le_trans M.size hG.1.size) (fun v9 w9 h1 h2 h3 h4 => hK v9 w9 ⟨hG.1.trans h2, h3⟩ ⟨u9, h1, (hapart v9 h4).1, (hapart v9 h4).2.1, (hapart v9 h4).2.2, h2.rw hU.1 (fun b hb e => by have := hvb b e; have := hU.2.1 b hb; omega), fun b hb => ⟨(hU.2.1 b hb).1, Nat.lt_of_lt_of_le (hU.2.1 b hb).2 h2.size⟩, hU.2.2⟩ (fun j u hj hr => ?_)))
    have hvW : ∀ b, W.heap.size ≤ b → v.ownBlock ≠ some b := fun b hb e => by have := hvb b e; omega
    match j, hj, hr with
    | 0, _, hr => exact hr
    | 1, _, hr => exact hr
    | 2, _, hr => exact hr
    | 3, _, hr => exact hr
    | 4, _, hr => exact hr
    | 5, _, hr => exact hr
    | 6, _, hr => exact hr
    | 7, _, hr => exact hr
    | 8, _, hr => exact hr
    | 9, _, hr => exact hr
    | 10, _, hr => exact hr
    | 11, _, hr => exact (fun h => ⟨h2.rw h.1 (fun b hb => hvW b (h.2.1 b hb).1), fun b hb => ⟨(h.2.1 b hb).1, Nat.lt_of_lt_of_le (h.2.1 b hb).2 h2.size⟩, h.2.2⟩) hr
    | 12, _, hr => obtain ⟨u0, e0, h⟩ := hr; exact ⟨u0, e0, ⟨h2.rw h.1 (fun b hb => hvW b (h.2.1 b hb).1), fun b hb => ⟨(h.2.1 b hb).1, Nat.lt_of_lt_of_le (h.2.1 b hb).2 h2.size⟩, h.2.2⟩⟩
    | 13, _, hr => obtain ⟨k0, u0, e0, q2, q3, h⟩ := hr; exact ⟨k0, u0, e0, q2, h2.at q3 (hvW k0 q2), ⟨h2.rw h.1 (fun b hb => hvW b (h.2.1 b hb).1), fun b hb => ⟨(h.2.1 b hb).1, Nat.lt_of_lt_of_le (h.2.1 b hb).2 h2.size⟩, h.2.2⟩⟩
    | 14, hj, _ => exact absurd rfl hj
    | j + 15, _, _ => trivial
  intro f w5 hG hR
  obtain ⟨u5, hown5, on5, onu, onz, hU5⟩ := hR 14 rfl
  obtain ⟨g5, c5, hv5, _⟩ := hown5.form (by omega)
  have Q15 := hG.1.at Q1 on_k1
  refine wl_st1x 95 (.tmp 3) (.tmp 28) k1 0 (.slice (some ⟨g5, 0, none⟩) (pre.length + 1) c5) [v] [.slice (some ⟨g5, 0, none⟩) (pre.length + 1) c5] Q15 rfl rfl rfl hv5 rfl zs95 rfl rfl rfl rfl ?_
  intro w6 hT Q16
  refine w_nil (xn_blk ?_)
  have hkd : Kd (Dh D mb) W w6 := fun j hj => (hT.block j (fun e => nd_k1 (e ▸ hj))).trans (hG.1.block j (by rcases hj with hj | hj; exact hS.lt hj; exact hS.sc.lt hj) (hvD j hj))
  have hl9 : (pre ++ [x]).length = pre.length + 1 := by simp
  rw [hv5] at hown5 on5 onu onz
  have hZ9 : (Z ++ [(x.1.1, u5)]).map (·.1) = (pre ++ [x]).map (fun x : Rx R => x.1.1) := by rw [List.map_append, List.map_append, hZ]; rfl
  have hrz : rws (Z ++ [(x.1.1, u5)]) = rws Z ++ [.int .i64 r9.i.i, u5] := by unfold rws; rw [List.flatMap_append, hri]; rfl
  have hst : ∀ {u : Value} {L : List (List Value)}, Rw w5 10 u L → (∀ b, ob u = some b → b ≠ k1) → Rw w6 10 u L := fun r h => r.kd (fun b hb => hT.block b (h b hb))
  have hk1W := Q1.lt
  have hs6 := hT.size
  have hG5 := hG.1.size
  refine WX.mk ⟨keeps_app hown hG.1 hT Q1, hkd, .slice (some ⟨g5, 0, none⟩) (pre.length + 1) c5, Z ++ [(x.1.1, u5)], hZ9, Q16, by rw [hl9, hrz]; exact own_st295 hown5 hT on5, on5, fun z hz => ?_, fun z hz b hb => ?_, hS.kd hkd, (Mk.refl (fun j => j = k1) _ |>.st hT rfl).mo (hG.1.mo M (fun k e => (hown.lt k e).1)) (fun _ e => e ▸ N_k1)⟩
  ·rcases List.mem_append.1 hz with hz | hz
   ·exact hst (hG.1.rw (hRV z hz) (fun b hb => (hnew z hz b hb).2.2.2)) (fun b hb => (hnew z hz b hb).2.2.1)
   ·rw [List.mem_singleton.1 hz]; show Rw w6 10 u5 (x.1.1.vs.map V10.cells); rw [← hri]; exact hst hU5.1 (fun b hb e => by have := (hU5.2.1 b hb).1; omega)
  ·rcases List.mem_append.1 hz with hz | hz
   ·obtain ⟨a1, a2, a3, a4⟩ := hnew z hz b hb; exact ⟨a1, by omega, a3, onz b a2 a4⟩
   ·rw [List.mem_singleton.1 hz] at hb; have h5 := hU5.2.1 b hb; exact ⟨by omega, by omega, by omega, onu b hb⟩
 case done =>
  rintro D0 xs W hD rfl ⟨v, Z, hZ, Q1, hown, _, hRV, hnew, hS, M⟩ hK
  replace hD := Nat.le_trans hNR hD
  refine xn_blk (xn_then (w_seq (w_reg ?_)))
  refine wl_l 95 (.tmp 3) (pt k1 0) (v) (run_one Q1 95 0 rfl Try.underlying95 rfl) ?_
  refine wl_m (.tmp 29) (v) ?_
  refine w_nil (xn_then (w_ret ?_))
  have hids : Z.map (·.1) = tr.ids := by rw [hZ, T.ky_ids, ← hKV]; simp
  have hgb := grownBy_putObj' W D0 (.deferred none)
  have hrr : ∀ r, some D0 = some r → ∃ o : Obj, W.heap[r]? = some o ∧ o.isCells = false := fun r e => by cases e; exact ⟨_, hK, rfl⟩
  have hZ2 := own_grown95 hown hgb hrr
  obtain ⟨p, cap, hv, hRA, hpb⟩ := own_ra hZ2
  exact w_ret1m D0 _ v rfl hK rfl ⟨p, cap, Z, by rw [hv], hids, hRA, fun z hz => (hRV z hz).grown hgb hrr, hpb, fun z hz b hb => ⟨(hnew z hz b hb).1, Nat.lt_of_lt_of_le (hnew z hz b hb).2.1 hgb.size⟩, Mo.putO M hD hK rfl rfl⟩
end R
end G
end Go.Proofs.Ythfemlhmnjfjiaa
/-
 A drawn region that ends with a call of yield.
-/
namespace Go.Proofs.Ythfemlhmnjfjiaa
open Go.RowKit
namespace G
namespace R
section
variable {P : Program} {ops : List Oper} {Q : Exit → Act → World → Prop} {n : Nat} {l : List (Nat × Value)}
theorem wpAnyIn_chain {F : Fence} {m0 : Nat} {m : Nat} {fs : List Nat} (hfs : ∀ j, m ≤ j → fs.contains j = false) (hc : chainB ops m fs = true) (hb : edgesBack .any ops.toArray = true) : ∀ (d q fuel : Nat) (listed : Array Bool) (a : Act) (w : World), q + d = ops.length → m ≤ q → d ≤ fuel → listed.size = ops.length → Shut ops listed →
  (∀ j, j < ops.length → listed.getD j true = decide (j < q)) → wpListIn F m0 P ops.toArray Q (ops.drop q) a w → wpAnyIn F m0 P .any ops.toArray Q fuel listed a w := by
 intro d
 induction d with
 | zero =>
  intro q fuel listed a w hq hm hf hz hsh hl h
  have hr : Region.ready .any ops.toArray listed = [] := by
   rw [List.eq_nil_iff_forall_not_mem]
   intro i hi
   obtain ⟨h0, o, ho, _⟩ := mem_ready.1 hi
   have hlt : i < ops.length := by have := (Array.getElem?_eq_some_iff.1 ho).1; simpa using this
   rw [hl i hlt] at h0
   have := of_decide_eq_false h0
   omega
  rw [List.drop_eq_nil_of_le (by omega)] at h
  exact wpAnyIn_done hr h fuel
 | succ d ih =>
  intro q fuel listed a w hq hm hf hz hsh hl h
  have hqlt : q < ops.length := by omega
  cases fuel with
  | zero => omega
  | succ fuel =>
   have hone : ∀ i, i ∈ Region.ready .any ops.toArray listed ↔ i = q := by
    intro i
    constructor
    ·intro hi
     obtain ⟨h0, o, ho, hall⟩ := mem_ready.1 hi
     have hlt : i < ops.length := by have := (Array.getElem?_eq_some_iff.1 ho).1; simpa using this
     rw [hl i hlt] at h0
     have hge := of_decide_eq_false h0
     rcases Nat.lt_or_ge q i with hgt | hle
     ·have h1 := chainB_spec hc hsh (i := i) (o := o) (by simpa using ho) (by omega) hall q hgt (hfs q hm)
      have h2 := hl q hqlt
      have : q < listed.size := by omega
      simp [this] at h1 h2
      rw [h1] at h2; cases h2
     ·omega
    ·rintro rfl
     refine mem_ready.2 ⟨by rw [hl i hqlt]; simp, ops[i], by simp [hqlt], fun e he hbd => ?_⟩
     have hlt := edgesBack_spec hb (i := i) (o := ops[i]) (by simp [hqlt]) e he hbd
     have h2 := hl e.on (by omega)
     have : e.on < listed.size := by omega
     simp [this] at h2 ⊢
     rw [h2]; exact decide_eq_true hlt
   refine ⟨fun h0 => ?_, fun i hi => ?_⟩
   ·have := (hone q).2 rfl; rw [h0] at this; cases this
   ·have := (hone i).1 hi
    subst this
    have hdi : ∀ e ∈ (ops[i]).after, Region.binds .any e = true → listed.getD e.on false = true := by
     obtain ⟨_, o, ho, hall⟩ := mem_ready.1 hi
     have : ops[i] = o := by have := Array.getElem?_eq_some_iff.1 ho; obtain ⟨_, h⟩ := this; simpa using h
     rw [this]; exact hall
    rw [List.drop_eq_getElem_cons hqlt] at h
    have h1 : wpOpIn F m0 P ops.toArray Q i (wpListIn F m0 P ops.toArray Q (ops.drop (i + 1))) a w := by
     unfold wpOpIn
     have e : ops.toArray[i]? = some ops[i] := by simp [hqlt]
     rw [e]
     unfold wpListIn at h
     exact h
    refine wpOpIn_mono (fun a' w' h' => ih (i + 1) fuel _ a' w' (by omega) (by omega) (by omega) (by simpa using hz) (hsh.step (i := i) (o := ops[i]) (by simp [hqlt]) hdi) (fun j hj => ?_) h') h1
    by_cases e : i = j
    ·subst e
     have : i < listed.size := by omega
     simp [this]
    ·rw [getD_set_ne true e, hl j hj]
     congr 1
     rw [eq_iff_iff]; omega
end
section
variable {P : Program} {n : Nat} {l : List (Nat × Value)} {w : World} {Q : Exit → Act → World → Prop}
theorem a_ogr {ro : Option Nat} {m0 : Nat} {ds : List Deferred} {ops : List Oper} (m : Nat) (G : World → Prop) (sp : List (Value → World → Prop))
  (hb : edgesBack .any ops.toArray = true) (hd : dstsApart (ops.take m) = true) (hc : chainB ops m [] = true) (hl : Nat.ble m ops.length = true)
  (hno : ∀ o ∈ ops.take m, notDefer o = true) (hG : G w.drew) (hs : Each (OgC P ops (Wd ds Q) n l m G sp) 0 (ops.take m))
  (hend : ∀ f w', G w' → (∀ i, Nat.blt i m = true → spQ sp i (f i) w') → RL ro m0 ds P ops.toArray Q (ops.drop m) n (asg f 0 (ops.take m) l) w') : wpAnyIn (Fw ro) m0 P .any ops.toArray Q ops.toArray.size (Array.replicate ops.toArray.size false) (wd (fr n l) ds) w.drew := by
 have hml : m ≤ ops.length := Nat.le_of_ble_eq_true hl
 have hfs : ∀ j, m ≤ j → ([] : List Nat).contains j = false := fun _ _ => rfl
 have main : ∀ (fuel : Nat) (listed : Array Bool) (f : Nat → Value) (w : World), listed.toList.count false ≤ fuel → listed.size = ops.length → Shut ops listed → (∀ j, m ≤ j → j < ops.length → listed.getD j true = false) →
   G w → (∀ i, i < m → listed.getD i false = true → spQ sp i (f i) w) → wpAnyIn (Fw ro) m0 P .any ops.toArray Q fuel listed (wd (putAll f 0 (ops.take m) (fr n l)) ds) w := by
  intro fuel
  induction fuel with
  | zero =>
   intro listed f w hcnt hz hsh hun hW hR
   have hall : ∀ j, j < m → listed.getD j false = true := fun i hi' => by
    have h2 : i < listed.size := by omega
    cases e : listed.getD i false with
    | true => rfl
    | false =>
     have : false ∈ listed.toList := by simp [h2] at e; rw [← e]; simp
     have := List.count_pos_iff.2 this
     omega
   refine wpAnyIn_chain hfs hc hb (ops.length - m) m 0 listed _ w (by omega) (Nat.le_refl _) ?_ hz hsh ?_ ?_
   ·rcases Nat.lt_or_ge m ops.length with h | h
    ·exfalso
     have h1 := hun m (Nat.le_refl _) h
     have h2 : m < listed.size := by omega
     have : false ∈ listed.toList := by simp [h2] at h1; rw [← h1]; simp
     have := List.count_pos_iff.2 this
     omega
    ·omega
   ·intro j hj
    have h2 : j < listed.size := by omega
    rcases Nat.lt_or_ge j m with h | h
    ·have := hall j h; simp [h2] at this ⊢; rw [this]; simp [h]
    ·rw [hun j h hj]; simp [Nat.not_lt.2 h]
   ·rw [putAll_fr]
    exact (hend f w hW (fun i hi => hR i (by rw [Nat.blt_eq] at hi; exact hi) (hall i (by rw [Nat.blt_eq] at hi; exact hi)))).out
  | succ fuel ih =>
   intro listed f w hcnt hz hsh hun hW hR
   by_cases hall : ∀ j, j < m → listed.getD j true = true
   ·have hge : ops.length - m ≤ listed.toList.count false := by
     have h1 : (listed.toList.drop m).count false = ops.length - m := by
      have h2 : listed.toList.drop m = List.replicate (ops.length - m) false := by
       apply List.ext_getElem
       ·simp [hz]
       ·intro j h3 h4
        simp at h3
        have := hun (m + j) (by omega) (by omega)
        have h5 : m + j < listed.size := by omega
        simpa [h5] using this
      rw [h2]; simp
     have h3 := List.take_append_drop m listed.toList
     rw [← h3, List.count_append]
     omega
    refine wpAnyIn_chain hfs hc hb (ops.length - m) m _ listed _ w (by omega) (Nat.le_refl _) (by omega) hz hsh (fun j hj => ?_) ?_
    ·rcases Nat.lt_or_ge j m with h | h
     ·rw [hall j h]; simp [h]
     ·rw [hun j h hj]; simp [Nat.not_lt.2 h]
    ·rw [putAll_fr]
     have hall2 : ∀ i, Nat.blt i m = true → listed.getD i false = true := fun i hi => by
      have hi' : i < m := by rw [Nat.blt_eq] at hi; exact hi
      have h1 := hall i hi'
      have h2 : i < listed.size := by omega
      simpa [h2] using h1
     exact (hend f w hW (fun i hi => hR i (by rw [Nat.blt_eq] at hi; exact hi) (hall2 i hi))).out
   ·obtain ⟨u, hum, hu⟩ : ∃ u, u < m ∧ listed.getD u true = false := by
     rcases Classical.not_forall.1 hall with ⟨u, h⟩
     rcases Classical.not_imp.1 h with ⟨h1, h4⟩
     exact ⟨u, h1, by cases e : listed.getD u true with | true => exact absurd e h4 | false => rfl⟩
    have hne : Region.ready .any ops.toArray listed ≠ [] := fun hr => by
     have := all_listed hb hr u (by simp; omega)
     rw [hu] at this; cases this
    refine ⟨fun h0 => absurd h0 hne, fun i hi => ?_⟩
    obtain ⟨h0, o, ho, hdep⟩ := mem_ready.1 hi
    have hoi : ops[i]? = some o := by simpa using ho
    have hilt : i < ops.length := (List.getElem?_eq_some_iff.1 hoi).1
    have him : i < m := by
     rcases Nat.lt_or_ge i m with h | h
     ·exact h
     ·exfalso
      have h1 := chainB_spec hc hsh hoi h hdep u (by omega) rfl
      have h2 : u < listed.size := by omega
      simp [h2] at h1 hu
      rw [h1] at hu; cases hu
    have hot : (ops.take m)[i]? = some o := by rw [List.getElem?_take_of_lt him]; exact hoi
    have hstep := Each.spec (ops.take m) 0 hs i o hot
    rw [Nat.zero_add] at hstep
    have hcount : ((listed.setIfInBounds i true).toList.count false) ≤ fuel := by
     have h1 : listed.toList[i]? = some false := by
      have h' : i < listed.size := by omega
      simp [h'] at h0; simp [h', h0]
     have := count_set _ _ h1
     simp only [Array.toList_setIfInBounds]
     omega
    have hun' : ∀ j, m ≤ j → j < ops.length → (listed.setIfInBounds i true).getD j true = false := fun j h1 h2 => by
     rw [getD_set_ne true (by omega)]; exact hun j h1 h2
    have next : ∀ v w', G w' → spQ sp i v w' → (∀ j u, j ≠ i → spQ sp j u w → spQ sp j u w') → wpAnyIn (Fw ro) m0 P .any ops.toArray Q fuel (listed.setIfInBounds i true) (wd (putAll (upd f i v) 0 (ops.take m) (fr n l)) ds) w' := fun v w' hg hden hot' => by
     refine ih _ _ w' hcount (by simpa using hz) (hsh.step hoi hdep) hun' hg (fun j hj hlj => ?_)
     by_cases e : j = i
     ·subst e; simpa [upd] using hden
     ·rw [getD_set_ne false (Ne.symm e)] at hlj
      have := hot' j (f j) e (hR j hj hlj)
      simpa [upd, e] using this
    have put : ∀ v, fr n (ext (asg f 0 (ops.take m) l) o.dst v) = putAll (upd f i v) 0 (ops.take m) (fr n l) := fun v => by
     have := putAll_put v (ops.take m) 0 f (fr n l) hd i o hot
     rw [Nat.zero_add] at this
     rw [← this, putAll_fr, fr_put]
    refine wpOpIn_step ho (fun K hK => ?_)
    have hnd : notDefer o = true := hno o (List.mem_of_getElem? hot)
    have hwe : (wd (putAll f 0 (ops.take m) (fr n l)) ds).tmps = (fr n (asg f 0 (ops.take m) l)).tmps := by rw [putAll_fr]; rfl
    rw [hwe, fr_wanted]
    have hh := (hstep.out f w hW (fun j hj => by
     obtain ⟨e, he, hb'⟩ := List.any_eq_true.1 hj
     simp only [Bool.and_eq_true] at hb'
     have heon := Nat.eq_of_beq_eq_true hb'.2
     have hj' := hdep e (by simpa using he) hb'.1
     have hlt := edgesBack_spec hb ho e (by simpa using he) hb'.1
     rw [heon] at hj' hlt
     exact hR j (by omega) hj') (fun a w' => K (wd a ds) w') (fun v w' h1 h2 h3 => by rw [put]; exact hK _ _ (next v w' h1 h2 h3))).out
    rcases hh with ⟨h1, h2⟩ | ⟨h1, h2⟩
    ·rw [h1, putAll_fr]; exact op_in hnd (fun a w q => q) h2.out
    ·rw [h1]
     refine ⟨fun _ _ => trivial, ?_⟩
     rw [putAll_fr, ← wd_put, fr_put]; exact h2
 have h0 : putAll (slots (fr n l) (ops.take m).toArray) 0 (ops.take m) (fr n l) = fr n l := putAll_self _ _ 0 _ (fun i o ho t ht => by simp only [Nat.zero_add, slots]; rw [show (ops.take m).toArray[i]? = some o by simpa using ho]; simp [ht])
 have := main ops.length (Array.replicate ops.length false) (slots (fr n l) (ops.take m).toArray) w.drew (by simp) (by simp) (Shut.start _ _) (fun j _ hj => by simp [hj]) hG (fun i _ hi => by
  exfalso
  rcases Nat.lt_or_ge i ops.length with h' | h' <;> simp [h'] at hi)
 rw [h0] at this
 simpa using this
theorem w_ogr {ro : Option Nat} {m0 : Nat} {ds : List Deferred} {id : Nat} {ops : List Oper} (m : Nat) (G : World → Prop) (sp : List (Value → World → Prop)) (hm : P.follows .mixedOrders = true)
  (hb : edgesBack .any ops.toArray = true) (hd : dstsApart (ops.take m) = true) (hc : chainB ops m [] = true) (hl : Nat.ble m ops.length = true)
  (hno : (ops.take m).all notDefer = true) (hG : G w.drew) (hs : Each (OgC P ops (Wd ds Q) n l m G sp) 0 (ops.take m))
  (hend : ∀ f w', G w' → (∀ i, Nat.blt i m = true → spQ sp i (f i) w') → RL ro m0 ds P ops.toArray Q (ops.drop m) n (asg f 0 (ops.take m) l) w') : RC ro m0 ds P (Code.region id ops.toArray true) Q n l w :=
 ⟨wpIn_region_any hm (a_ogr m G sp hb hd hc hl (fun o ho => List.all_eq_true.1 hno o ho) hG hs hend)⟩
end
end R
end G
end Go.Proofs.Ythfemlhmnjfjiaa
/-
 All's iterator; All.
-/
namespace Go.Proofs.Ythfemlhmnjfjiaa
open Go.RowKit
namespace G
theorem oc83 {x : Int} {u : Value} (h : u.oneCell' = true) : ((#[.int .i64 x, u] : Array Value).toList.all (·.oneCell')) = true := by
 show ((Value.int .i64 x).oneCell' && (u.oneCell' && true)) = true
 rw [h]; rfl
theorem ld83 {w : World} {b o : Nat} {x : Int} {u : Value} (h : w.rangeAt b o [.int .i64 x, u]) : (Instr.loadAt 83 (pt b o)).run Try.prog w = .ok (.agg #[.int .i64 x, u]) w :=
 run_loadAt_mid w b o 83 [.int .i64 x, u] _ h Try.underlying83 rfl zs83
theorem ix95 (b off i n c : Nat) (h : i < n) (w : World) : (Instr.indexAt 95 (.slice (some ⟨b, off, none⟩) n c) (.int .i64 (i : Int))).run Try.prog w = .ok (pt b (off + i * 2)) w := by
 have e : (Instr.indexAt 95 (.slice (some ⟨b, off, none⟩) n c) (.int .i64 (i : Int))).run Try.prog w = .ok (.pointer (some ((⟨b, off, none⟩ : Addr).add (i * 2)))) w := by simp [go_sem, h]
 rw [e, Addr.add_mid]
theorem len95 (ρ : Operand → Value) (x : Operand) (p : Option Addr) (m c : Nat) (hx : ρ x = .slice p m c) (dst : Option Tmp) (type : TypeId) (pos : String) (after : Array Edge) (guard : Option (Nat × Bool)) (w : World) : (execOp ρ { dst, op := .call { callee := .builtin .len, args := #[x], argTypes := #[95] }, type, pos, after, guard }).run Try.prog w = .ok (.value (.int .i64 (m : Int))) w := by
 simp [go_sem, hx]
def KZ (p : Option Addr) (Z : List (Py × Value)) (j : Nat) : Prop := pb p j ∨ ∃ z ∈ Z, ob z.2 = some j
theorem RA.mo {w w' : World} {p : Option Addr} {Z : List (Py × Value)} (h : RA w p Z) (m : Mo w w') : RA w' p Z := fun i z e => by
 obtain ⟨b, off, h1, h2, h3⟩ := h i z e
 exact ⟨b, off, h1, Nat.lt_of_lt_of_le h2 m.size, fun j v hv => (m.cell b _ h2).trans (h3 j v hv)⟩
theorem RA.kd {w w' : World} {p : Option Addr} {Z : List (Py × Value)} (h : RA w p Z) (k : ∀ j, pb p j → w'.heap[j]? = w.heap[j]?) : RA w' p Z := fun i z e => by
 obtain ⟨b, off, h1, h2, h3⟩ := h i z e
 have hb := k b ⟨off, h1⟩
 exact ⟨b, off, h1, lt_kd h2 hb, fun j v hv => (World.cell?_of_block (a := ⟨b, off + i * 2 + j, none⟩) hb).trans (h3 j v hv)⟩
theorem RV.mo {w w' : World} {Z : List (Py × Value)} (h : RV w Z) (m : Mo w w') : RV w' Z := fun z hz => (h z hz).mo m
def TZ (w : World) (Z : List (Py × Value)) (px : List (Py × Value) × (Py × Value)) (W : World) : Prop := (∃ z, Z[px.1.length]? = some z ∧ px.2.1 = z.1) ∧ Rw W 10 px.2.2 (px.2.1.vs.map V10.cells) ∧ ∀ b, ob px.2.2 = some b → w.heap.size ≤ b
namespace R
theorem tz_own {B : Nat} {w : World} {Z : List (Py × Value)} : OwnF B (TZ w Z) := fun _ _ _ _ h hg _ hr => ⟨h.1, h.2.1.grown hg (fun r e => (hr r e).2), h.2.2⟩
end R
end G
end Go.Proofs.Ythfemlhmnjfjiaa
/-
 All; a tree that no call made.
-/
namespace Go.Proofs.Ythfemlhmnjfjiaa
open Go.RowKit
namespace G
namespace R
end R
section
variable {w : World}
theorem all_n {t : Nat} {mb : Hd} {D : Nat → Prop} {lk : Int} {tr : T} (hF : FT D w t mb tr lk) : Calls Try.prog 21 #[pt t 0] w fun e w' => ∃ (kb : Nat) (p : Option Addr) (cap : Nat) (Z : List (Py × Value)), e = .returned (.func (.func 42) #[] #[pt kb 0]) ∧ At w' kb [.slice p Z.length cap] ∧ Z.map (·.1) = tr.ids ∧ RA w' p Z ∧ RV w' Z ∧ (∀ k, pb p k → w.heap.size ≤ k ∧ k < w'.heap.size) ∧ (∀ z ∈ Z, ∀ b, ob z.2 = some b → w.heap.size ≤ b ∧ b < w'.heap.size) ∧ w.heap.size ≤ kb ∧ Mo w w' := by
 refine w_enter 7 Try.func21 Try.ntmps21 rfl rfl ?_
 have M : Mo w w := Mo.refl _
 refine w_seq (w_reg ?_)
 refine wl_m (.const (Go.Value.nilFunc)) (.nilFunc) ?_
 refine w_nil (xn_then (w_seq (w_reg ?_)))
 refine wl_m (.tmp 0) (pt t 0) ?_
 refine wl_callx 41 [(.tmp 4)] _ [pt t 0] rfl rfl (fun _ _ => by kernel_rfl) (R.rows_n hF) rfl ?_
 rintro _ w1 ⟨p, cap, Z, rfl, hZ, hRA, hRV, hpb, hnz, hq⟩
 refine ⟨_, rfl, ?_⟩
 have N9 := hq.size
 replace M := M.trans hq
 clear hq
 refine wl_alloc 95 #[.slice none 0 0] rfl (fun _ => by kernel_rfl) rfl ?_
 intro k1 w2 hk hz hq Q1
 replace hRA := hRA.mo hq
 replace hRV := hRV.mo hq
 have hZs : w2.heap.size = k1 + 1 := hz
 have hk1s := hk
 have N_k1 : w.heap.size ≤ k1 := by have := M.size; omega
 replace M := M.trans hq
 clear hk hz hq
 refine wl_st1x 95 (.tmp 3) (.tmp 5) k1 0 (.slice p Z.length cap) _ [.slice p Z.length cap] Q1 rfl rfl rfl rfl rfl zs95 rfl rfl rfl rfl ?_
 intro w3 hS Qn
 replace hRA := hRA.kd (fun j hj => hS.block j (fun e => by have := (hpb j hj).2; omega))
 replace hRV : RV w3 Z := fun z hz => (hRV z hz).kd (fun b hb => hS.block b (fun e => by have := (hnz z hz b hb).2; omega))
 have hSs := hS.size
 replace Q1 := Qn
 clear Qn
 replace M := (Mk.refl (fun j => j = k1) _ |>.st hS rfl).mo M (fun _ e => e ▸ N_k1)
 clear hS
 refine w_nil (xn_then (w_seq (w_reg ?_)))
 refine wl_val (.func (.func 42) #[] #[pt k1 0]) (mf2 42 _ _ _ (by exact rfl) _ _ _ _ _ _) rfl ?_
 refine wl_m (.tmp 6) (.func (.func 42) #[] #[pt k1 0]) ?_
 refine w_nil (xn_then (w_ret ?_))
 exact w_ret1 _ (.func (.func 42) #[] #[pt k1 0]) rfl rfl ⟨k1, p, cap, Z, rfl, Q1, hZ, hRA, hRV, fun k hk => ⟨(hpb k hk).1, by have := (hpb k hk).2; omega⟩, fun z hz b hb => ⟨(hnz z hz b hb).1, by have := (hnz z hz b hb).2; omega⟩, N_k1, M⟩
end
end G
end Go.Proofs.Ythfemlhmnjfjiaa
/-
 AggtreeNone: what its walk needs.
-/
namespace Go.Proofs.Ythfemlhmnjfjiaa
open Go.RowKit
namespace G
theorem mk_grown {W W' : World} {row : Option Nat} (hg : W.grownBy W' row) (hf : ∀ a, W'.frozen? a = W.frozen? a) : Mk (fun j => row = some j) W W' :=
 ⟨hg.os, hg.tape, hg.output, hg.size, fun k hk hn => hg.block k hk (fun e => hn e.symm), hf⟩
theorem FT.kept {D E : Nat → Prop} {w w' : World} {t : Nat} {mb : Hd} {tr : T} {lk : Int} (h : FT D w t mb tr lk) (m : Mk E w w') (hE : ∀ j, D j → ¬ E j) (hs : ∀ b, ob mb.h = some b → ¬ E b) (hm : ¬ E mb.m) : FT D w' t mb tr lk := by
 obtain ⟨R, root, hS, hAp, hC, hR, hn⟩ := h.ts
 exact ⟨⟨R, root, hS.kept m hE hs, hAp, hC, hR, hn⟩, h.om.mk m hm, h.ok, h.nd, h.rg, h.le, h.l0, h.hm⟩
theorem dk_wr {n0 : Nat} {ks : List Nat} {w w' : World} {Dk : Nat} {o : Obj} (h : w.heap[Dk]? = some o) (m : Mk (Wr n0 ks) w w') (hk : Dk ∈ ks) : w'.heap[Dk]? = some o :=
 (m.block Dk (Array.getElem?_eq_some_iff.1 h).1 (fun e => e.2 hk)).trans h
def y1 : V10 := ⟨1, ⟨false, 1, 0⟩, false, ⟨#[]⟩, 0⟩
def y2 : V10 := ⟨1, ⟨false, 2, 2⟩, false, ⟨#[]⟩, 0⟩
def y9 : V10 := ⟨1, ⟨false, 9, 0⟩, false, ⟨#[]⟩, 0⟩
def z9 : V10 := ⟨1, ⟨false, 9, 2⟩, false, ⟨#[]⟩, 0⟩
end G
end Go.Proofs.Ythfemlhmnjfjiaa
/-
 Two trees beside each other.
-/
namespace Go.Proofs.Ythfemlhmnjfjiaa
open Go.RowKit
namespace G
def WrP (n0 : Nat) (K : Nat → Prop) (j : Nat) : Prop := n0 ≤ j ∧ ¬ K j
def GP (n0 : Nat) (K : Nat → Prop) (w : World) (t : Nat) (mb : Hd) (tr : T) (lk : Int) : Prop :=
 n0 ≤ w.heap.size ∧ (∀ k, K k → k < w.heap.size) ∧ (∀ b, ob mb.h = some b → WrP n0 K b) ∧ ∃ D, FT D w t mb tr lk ∧ ∀ j, D j ∨ j = mb.m → WrP n0 K j
namespace K2
section
variable {n0 : Nat} {K : Nat → Prop} {w w' : World} {t : Nat} {mb : Hd} {tr : T} {lk : Int}
theorem GP.mo (h : GP n0 K w t mb tr lk) (m : Mo w w') : GP n0 K w' t mb tr lk := by
 obtain ⟨h1, h2, h5, D, h3, h4⟩ := h
 exact ⟨Nat.le_trans h1 m.size, fun k e => Nat.lt_of_lt_of_le (h2 k e) m.size, h5, D, h3.mo m, h4⟩
theorem GP.l0 (h : GP n0 K w t mb tr lk) : 0 ≤ lk := by obtain ⟨_, _, _, D, h3, _⟩ := h; exact h3.l0
theorem GP.le (h : GP n0 K w t mb tr lk) : tr.sz ≤ 1024 := by obtain ⟨_, _, _, D, h3, _⟩ := h; exact h3.le
theorem GP.nd (h : GP n0 K w t mb tr lk) : tr.is.Nodup := by obtain ⟨_, _, _, D, h3, _⟩ := h; exact h3.nd
theorem GP.rg (h : GP n0 K w t mb tr lk) : ∀ i ∈ tr.is, 1 ≤ i ∧ i ≤ 9007199254740992 := by obtain ⟨_, _, _, D, h3, _⟩ := h; exact h3.rg
theorem GP.oks (h : GP n0 K w t mb tr lk) : ∀ y ∈ tr.ids, y.ok ∧ y.vs.length = mb.sc.length := by
 obtain ⟨_, _, _, D, h3, _⟩ := h
 obtain ⟨R, root, hS, _, _, hR, _⟩ := h3.ts
 have : ∀ (tr : T) {u : Option Nat}, Rep mb.sc R u tr → ∀ y ∈ tr.ids, y.ok ∧ y.vs.length = mb.sc.length := by
  intro tr
  induction tr with
  | e => intro u _ y hy; cases hy
  | n k i s l r il ir =>
   intro u h y hy
   obtain ⟨h9, e9⟩ := h.1
   unfold T.ids at hy
   rcases List.mem_append.1 hy with hy | hy
   ·exact il h.2.1 y hy
   ·rcases List.mem_cons.1 hy with rfl | hy
    ·exact ⟨(hS.sv k _ e9).2.2, (hS.sv k _ e9).2.1⟩
    ·exact ir h.2.2 y hy
 exact this tr hR
theorem GP.grow {D D' : Nat → Prop} {tr' : T} {lk' : Int} (h1 : n0 ≤ w.heap.size) (h2 : ∀ k, K k → k < w.heap.size) (h5 : ∀ b, ob mb.h = some b → WrP n0 K b) (h4 : ∀ j, D j ∨ j = mb.m → WrP n0 K j) (h : FT D' w' t mb tr' lk') (hD : ∀ j, D' j → D j ∨ w.heap.size ≤ j) (m : Mk (fun j => D j ∨ j = mb.m) w w') : GP n0 K w' t mb tr' lk' ∧ Mk (WrP n0 K) w w' := by
 refine ⟨⟨Nat.le_trans h1 m.size, fun k e => Nat.lt_of_lt_of_le (h2 k e) m.size, h5, _, h, fun j e => ?_⟩, m.sub h4⟩
 rcases e with e | e
 ·rcases hD j e with e | e
  ·exact h4 j (Or.inl e)
  ·exact ⟨by omega, fun q => by have := h2 _ q; omega⟩
 ·exact h4 j (Or.inr e)
theorem GP.eq (h : GP n0 K w t mb tr lk) (m : Mo w w') : GP n0 K w' t mb tr lk ∧ Mk (WrP n0 K) w w' := ⟨GP.mo h m, Mk.of _ m⟩
theorem insert_no {at0 id : Int} {p : Option Addr} {cap : Nat} {vs : List V10} (h : GP n0 K w t mb tr lk) (hi : I64 id) (he : insE mb.sc.length tr at0 id vs.length ≠ 0) : Calls Try.prog 9 #[pt t 0, .int .i64 at0, .int .i64 id, .slice p vs.length cap] w fun e w' => e = .returned (.int .i64 (insE mb.sc.length tr at0 id vs.length)) ∧ Mo w w' := by
 obtain ⟨g1, g2, g5, D, hF, g4⟩ := h
 have hkl := tr.kv_len
 unfold insE at he ⊢
 by_cases c0 : vs.length ≠ mb.sc.length
 ·rw [if_pos c0]; exact insert_v hF (decide_eq_false c0)
 rw [if_neg c0] at he ⊢
 have c0' : decide (vs.length = mb.sc.length) = true := decide_eq_true (Classical.not_not.1 c0)
 by_cases c1 : id < 1
 ·rw [if_pos (Or.inl c1)]; exact insert_a hF c0' (decide_eq_true c1)
 by_cases c2 : 9007199254740992 < id
 ·rw [if_pos (Or.inr c2)]; exact insert_b hF c0' (decide_eq_false c1) (decide_eq_true c2)
 rw [if_neg (by omega)] at he ⊢
 by_cases c3 : id ∈ tr.is
 ·rw [if_pos c3]; exact insert_c hF hi c0' (decide_eq_false c1) (decide_eq_false c2) (adr_is.2 (by rw [T.kv_ids]; exact c3))
 rw [if_neg c3] at he ⊢
 have c3' : (adr tr.kv id).isSome = false := by rw [adr_out c3]; rfl
 by_cases c4 : 1024 ≤ tr.sz
 ·rw [if_pos c4]; exact insert_d hF hi c0' (decide_eq_false c1) (decide_eq_false c2) c3' (decide_eq_true (by omega))
 rw [if_neg c4] at he ⊢
 by_cases c5 : at0 < 0
 ·rw [if_pos (Or.inl c5)]; exact insert_e hF hi c0' (decide_eq_false c1) (decide_eq_false c2) c3' (decide_eq_false (by omega)) (decide_eq_true c5)
 by_cases c6 : tr.sz < at0
 ·rw [if_pos (Or.inr c6)]; exact insert_f hF hi c0' (decide_eq_false c1) (decide_eq_false c2) c3' (decide_eq_false (by omega)) (decide_eq_false c5) (decide_eq_true (by omega))
 rw [if_neg (by omega)] at he
 exact absurd rfl he
theorem insert_g {at0 id : Int} {p : Option Addr} {cap : Nat} {vs : List V10} (h : GP n0 K w t mb tr lk) (he : insE mb.sc.length tr at0 id vs.length = 0) (hlk : lk ≤ 3000000000000000000) (hSV : ∀ w', Mk (WrP n0 K) w w' → SVv w' p vs) (hvo : ∀ x ∈ vs, x.n.ok) : Calls Try.prog 9 #[pt t 0, .int .i64 at0, .int .i64 id, .slice p vs.length cap] w fun e w' => ∃ y kn tr' lk', e = .returned (.int .i64 0) ∧ Ins tr at0 ⟨id, y, vs⟩ kn tr' ∧ GP n0 K w' t mb tr' lk' ∧ lk < lk' ∧ lk' ≤ lk + 10 * tr.ht + 8 ∧ Mk (WrP n0 K) w w' := by
 obtain ⟨c0, c1, c2, c3, c4, c5, c6⟩ := insE_0 he
 obtain ⟨g1, g2, g5, D, hF, g4⟩ := h
 have hkl := tr.kv_len
 refine (insert_ok hF ⟨by omega, by omega⟩ (decide_eq_true c0) (decide_eq_false (by omega)) (decide_eq_false (by omega)) (by rw [adr_out c1]; rfl) (decide_eq_false (by omega)) (decide_eq_false (by omega)) (decide_eq_false (by omega)) hlk (fun w' m => hSV w' (m.sub g4)) hvo).mono fun e w' hq => ?_
 obtain ⟨y, kn, tr', lk', D', he, hI, hF2, hkn, hk1, hk2, hM, hD⟩ := hq
 obtain ⟨q1, q2⟩ := GP.grow g1 g2 g5 g4 hF2 hD hM
 exact ⟨y, kn, tr', lk', he, hI, q1, hk1, hk2, q2⟩
theorem ins_any {at0 id : Int} {p : Option Addr} {cap : Nat} {vs : List V10} (h : GP n0 K w t mb tr lk) (hi : I64 id) (hlk : lk ≤ 3000000000000000000) (hSV : ∀ w', Mk (WrP n0 K) w w' → SVv w' p vs) (hvo : ∀ x ∈ vs, x.n.ok) : Calls Try.prog 9 #[pt t 0, .int .i64 at0, .int .i64 id, .slice p vs.length cap] w fun e w' => ∃ tr' lk', e = .returned (.int .i64 (insE mb.sc.length tr at0 id vs.length)) ∧ GP n0 K w' t mb tr' lk' ∧ (insE mb.sc.length tr at0 id vs.length = 0 ∧ (∃ y kn, Ins tr at0 ⟨id, y, vs⟩ kn tr') ∧ lk < lk' ∨ insE mb.sc.length tr at0 id vs.length ≠ 0 ∧ tr' = tr ∧ lk' = lk) ∧ lk ≤ lk' ∧ lk' ≤ lk + 10 * tr.ht + 8 ∧ Mk (WrP n0 K) w w' := by
 by_cases c : insE mb.sc.length tr at0 id vs.length = 0
 ·refine (insert_g h c hlk hSV hvo).mono fun e w' hq => ?_
  obtain ⟨y, kn, tr', lk', he, hI, hG, hk1, hk2, hM⟩ := hq
  exact ⟨tr', lk', by rw [c]; exact he, hG, Or.inl ⟨c, ⟨y, kn, hI⟩, hk1⟩, by omega, hk2, hM⟩
 ·refine (insert_no h hi c).mono fun e w' hq => ?_
  obtain ⟨h1, h2⟩ := GP.eq h hq.2
  exact ⟨tr, lk, hq.1, h1, Or.inr ⟨c, rfl, rfl⟩, by omega, by omega, h2⟩
theorem del_any {id : Int} (h : GP n0 K w t mb tr lk) (hi : I64 id) (hlk : lk ≤ 2900000000000000000) : Calls Try.prog 15 #[pt t 0, .int .i64 id] w fun e w' => ∃ p c tr' lk', e = .returned (.tuple #[.int .i64 p, .int .i64 c]) ∧ GP n0 K w' t mb tr' lk' ∧ (c = 0 ∧ 0 ≤ p ∧ (∃ y, tr.ids[p.toNat]? = some y ∧ y.i = id ∧ Del tr y p tr') ∨ c = 4 ∧ p = 0 ∧ id ∉ tr.is ∧ tr' = tr ∧ lk' = lk) ∧ lk ≤ lk' ∧ lk' ≤ lk + 3 + 11 * tr.ht ∧ Mk (WrP n0 K) w w' := by
 by_cases c : id ∈ tr.is
 ·obtain ⟨g1, g2, g5, D, hF, g4⟩ := h
  obtain ⟨k, e⟩ := adr_in c
  refine (delete_ok hF hi e hlk).mono fun e w' hq => ?_
  obtain ⟨p, y, tr', lk', D', he, hp, hi, hy, hD, hF2, hk1, hk2, hM, hDD⟩ := hq
  obtain ⟨q1, q2⟩ := GP.grow g1 g2 g5 g4 hF2 (fun j e => Or.inl (hDD j e)) hM
  exact ⟨p, 0, tr', lk', he, q1, Or.inl ⟨rfl, hp, y, hi, hy, hD⟩, hk1, hk2, q2⟩
 ·have h' := h
  obtain ⟨g1, g2, g5, D, hF, g4⟩ := h
  refine (delete_a hF hi (adr_out c)).mono fun e w' hq => ?_
  obtain ⟨h1, h2⟩ := GP.eq h' hq.2
  exact ⟨_, _, tr, lk, hq.1, h1, Or.inr ⟨rfl, rfl, c, rfl, rfl⟩, by omega, by omega, h2⟩
theorem mov_any {id at0 : Int} (h : GP n0 K w t mb tr lk) (hi : I64 id) (hlk : lk ≤ 2900000000000000000) : Calls Try.prog 16 #[pt t 0, .int .i64 id, .int .i64 at0] w fun e w' => ∃ p c tr' lk', e = .returned (.tuple #[.int .i64 p, .int .i64 c]) ∧ GP n0 K w' t mb tr' lk' ∧ (c = 0 ∧ 0 ≤ p ∧ 0 ≤ at0 ∧ at0 < tr.sz ∧ (∃ y kn tr1, tr.ids[p.toNat]? = some y ∧ y.i = id ∧ Del tr y p tr1 ∧ Ins tr1 at0 y kn tr' ∧ lk' ≤ lk + 11 + 11 * tr.ht + 10 * tr1.ht) ∨ (c = 4 ∧ id ∉ tr.is ∨ c = 1 ∧ id ∈ tr.is ∧ (at0 < 0 ∨ tr.sz ≤ at0)) ∧ p = 0 ∧ tr' = tr ∧ lk' = lk) ∧ lk ≤ lk' ∧ Mk (WrP n0 K) w w' := by
 have h' := h
 have hkl := tr.kv_len
 obtain ⟨g1, g2, g5, D, hF, g4⟩ := h
 by_cases c : id ∈ tr.is
 ·obtain ⟨k, e⟩ := adr_in c
  by_cases c1 : at0 < 0 ∨ tr.sz ≤ at0
  ·have hc : Calls Try.prog 16 #[pt t 0, .int .i64 id, .int .i64 at0] w fun e w' => e = .returned (.tuple #[.int .i64 0, .int .i64 1]) ∧ Mo w w' := by
    by_cases c2 : at0 < 0
    ·exact move_b hF hi e (decide_eq_true c2)
    ·exact move_c hF hi e (decide_eq_false c2) (decide_eq_true (by omega))
   refine hc.mono fun e w' hq => ?_
   obtain ⟨h1, h2⟩ := GP.eq h' hq.2
   exact ⟨_, _, tr, lk, hq.1, h1, Or.inr ⟨Or.inr ⟨rfl, c, c1⟩, rfl, rfl, rfl⟩, by omega, h2⟩
  ·refine (move_ok hF hi e (decide_eq_false (by omega)) (decide_eq_false (by omega)) hlk).mono fun e w' hq => ?_
   obtain ⟨p, y, kn, tr1, tr', lk', D', he, hp, hy, hyi, hD, hI, hF2, hkn, hk1, hk2, hM, hDD⟩ := hq
   obtain ⟨q1, q2⟩ := GP.grow g1 g2 g5 g4 hF2 hDD hM
   exact ⟨p, 0, tr', lk', he, q1, Or.inl ⟨rfl, hp, by omega, by omega, y, kn, tr1, hy, hyi, hD, hI, hk2⟩, hk1, q2⟩
 ·refine (move_a hF hi (adr_out c)).mono fun e w' hq => ?_
  obtain ⟨h1, h2⟩ := GP.eq h' hq.2
  exact ⟨_, _, tr, lk, hq.1, h1, Or.inr ⟨Or.inl ⟨rfl, c⟩, rfl, rfl, rfl⟩, by omega, h2⟩
theorem set_any {id cn : Int} {x : V10} (h : GP n0 K w t mb tr lk) (hi : I64 id) (hx : x.n.ok) (hlk : lk ≤ 3000000000000000000) : Calls Try.prog 17 #[pt t 0, .int .i64 id, .int .i64 cn, V10.v x] w fun e w' => ∃ c tr' lk', e = .returned (.int .i64 c) ∧ GP n0 K w' t mb tr' lk' ∧ (c = 0 ∧ 0 ≤ cn ∧ cn < mb.sc.length ∧ (∃ A B y, tr.ids = A ++ y :: B ∧ y.i = id ∧ tr'.ids = A ++ ⟨y.i, y.v, y.vs.set cn.toNat x⟩ :: B ∧ Sim tr tr') ∧ lk < lk' ∨ (c = 1 ∧ (cn < 0 ∨ (mb.sc.length : Int) ≤ cn) ∨ c = 4 ∧ 0 ≤ cn ∧ cn < mb.sc.length ∧ id ∉ tr.is) ∧ tr' = tr ∧ lk' = lk) ∧ lk ≤ lk' ∧ lk' ≤ lk + 3 * tr.ht ∧ Mk (WrP n0 K) w w' := by
 have h' := h
 obtain ⟨g1, g2, g5, D, hF, g4⟩ := h
 by_cases c0 : cn < 0 ∨ (mb.sc.length : Int) ≤ cn
 ·refine (set_x hF (hasF c0)).mono fun e w' hq => ?_
  obtain ⟨h1, h2⟩ := GP.eq h' hq.2
  exact ⟨_, tr, lk, hq.1, h1, Or.inr ⟨Or.inl ⟨rfl, c0⟩, rfl, rfl⟩, by omega, by omega, h2⟩
 obtain ⟨n, rfl⟩ := Int.eq_ofNat_of_zero_le (show 0 ≤ cn by omega)
 have hn : n < mb.sc.length := by omega
 by_cases c : id ∈ tr.is
 ·obtain ⟨k, e⟩ := adr_in c
  refine (set_ok hF hi hn hx e hlk).mono fun e w' hq => ?_
  obtain ⟨A, B, y, tr', lk', he, h1, h2, h3, h4, hF2, hk1, hk2, hM⟩ := hq
  obtain ⟨q1, q2⟩ := GP.grow g1 g2 g5 g4 hF2 (fun j e => Or.inl e) (hM.sub (fun _ e => Or.inl e))
  exact ⟨0, tr', lk', he, q1, Or.inl ⟨rfl, by omega, by omega, ⟨A, B, y, h1, h2, h3, h4⟩, hk1⟩, by omega, hk2, q2⟩
 ·refine (set_n hF hi hn (adr_out c)).mono fun e w' hq => ?_
  obtain ⟨h1, h2⟩ := GP.eq h' hq.2
  exact ⟨_, tr, lk, hq.1, h1, Or.inr ⟨Or.inr ⟨rfl, by omega, by omega, c⟩, rfl, rfl⟩, by omega, by omega, h2⟩
theorem GP.keep {D : Nat → Prop} {tr' : T} {lk' : Int} (h1 : n0 ≤ w.heap.size) (h2 : ∀ k, K k → k < w.heap.size) (h5 : ∀ b, ob mb.h = some b → WrP n0 K b) (h4 : ∀ j, D j ∨ j = mb.m → WrP n0 K j) (h : FT D w' t mb tr' lk') (m : Mk D w w') : GP n0 K w' t mb tr' lk' ∧ Mk (WrP n0 K) w w' :=
 GP.grow h1 h2 h5 h4 h (fun _ e => Or.inl e) (m.sub (fun _ e => Or.inl e))
theorem qry_any {cn fa ta : Int} (h : GP n0 K w t mb tr lk) (hlk : lk ≤ 3000000000000000000) : Calls Try.prog 11 #[pt t 0, .int .i64 cn, .int .i64 fa, .int .i64 ta] w fun e w' => ∃ S cd lk', e = .returned (.tuple #[smv S, .int .i64 cd]) ∧ GP n0 K w' t mb tr lk' ∧ ((0 ≤ cn ∧ cn < mb.sc.length ∧ 0 ≤ fa ∧ fa ≤ ta ∧ ta ≤ tr.sz) ∧ cd = 0 ∧ S = prt cn.toNat (mb.sc.getD cn.toNat 0) fa ta tr.ids ∨ ¬ (0 ≤ cn ∧ cn < mb.sc.length ∧ 0 ≤ fa ∧ fa ≤ ta ∧ ta ≤ tr.sz) ∧ cd = 1 ∧ S = sm0) ∧ lk ≤ lk' ∧ lk' ≤ lk + 1 + 4 * tr.ht ∧ Mk (WrP n0 K) w w' := by
 have h' := h
 obtain ⟨g1, g2, g5, D, hF, g4⟩ := h
 by_cases c0 : cn < 0 ∨ (mb.sc.length : Int) ≤ cn
 ·refine (query_x hF (hasF c0)).mono fun e w' hq => ?_
  obtain ⟨h1, h2⟩ := GP.eq h' hq.2
  exact ⟨_, _, lk, hq.1, h1, Or.inr ⟨by omega, rfl, rfl⟩, by omega, by omega, h2⟩
 obtain ⟨n, rfl⟩ := Int.eq_ofNat_of_zero_le (show 0 ≤ cn by omega)
 have hn : n < mb.sc.length := by omega
 refine (query_c hF hn hlk).mono fun e w' hq => ?_
 obtain ⟨S, cd, lk', he, hr, hF2, hk1, hk2, hM⟩ := hq
 obtain ⟨q1, q2⟩ := GP.keep g1 g2 g5 g4 hF2 hM
 refine ⟨S, cd, lk', he, q1, ?_, hk1, hk2, q2⟩
 rcases hr with ⟨a, b, c⟩ | ⟨a, b, c⟩
 ·exact Or.inl ⟨by omega, b, c⟩
 ·exact Or.inr ⟨by omega, b, c⟩
theorem sum_any {cn : Int} (h : GP n0 K w t mb tr lk) (hlk : lk ≤ 3000000000000000000) : Calls Try.prog 12 #[pt t 0, .int .i64 cn] w fun e w' => ∃ S cd lk', e = .returned (.tuple #[smv S, .int .i64 cd]) ∧ GP n0 K w' t mb tr lk' ∧ ((0 ≤ cn ∧ cn < mb.sc.length) ∧ cd = 0 ∧ S = col cn.toNat (mb.sc.getD cn.toNat 0) tr.ids ∨ ¬ (0 ≤ cn ∧ cn < mb.sc.length) ∧ cd = 1 ∧ S = sm0) ∧ lk ≤ lk' ∧ lk' ≤ lk + 1 ∧ Mk (WrP n0 K) w w' := by
 have h' := h
 obtain ⟨g1, g2, g5, D, hF, g4⟩ := h
 by_cases c0 : cn < 0 ∨ (mb.sc.length : Int) ≤ cn
 ·refine (sumc_a hF (hasF c0)).mono fun e w' hq => ?_
  obtain ⟨h1, h2⟩ := GP.eq h' hq.2
  exact ⟨_, _, lk, hq.1, h1, Or.inr ⟨by omega, rfl, rfl⟩, by omega, by omega, h2⟩
 refine (sumc_ok hF (by rw [Bool.and_eq_true, decide_eq_true_eq, decide_eq_true_eq]; omega) hlk).mono fun e w' hq => ?_
 obtain ⟨lk', he, hF2, hk1, hk2, hM⟩ := hq
 obtain ⟨q1, q2⟩ := GP.keep g1 g2 g5 g4 hF2 hM
 exact ⟨_, _, lk', he, q1, Or.inl ⟨by omega, rfl, rfl⟩, hk1, hk2, q2⟩
end
end K2
def Bt (D : Nat → Prop) (mb : Hd) (j : Nat) : Prop := D j ∨ j = mb.m ∨ ob mb.h = some j
theorem Bt.lt {D : Nat → Prop} {w : World} {t : Nat} {mb : Hd} {tr : T} {lk : Int} (h : FT D w t mb tr lk) {j : Nat} (b : Bt D mb j) : j < w.heap.size := by
 obtain ⟨R, root, hS, _⟩ := h.ts
 rcases b with b | rfl | b
 ·exact hS.lt b
 ·exact h.om.lt
 ·exact hS.sc.lt b
theorem FT.keptB {D E : Nat → Prop} {w w' : World} {t : Nat} {mb : Hd} {tr : T} {lk : Int} (h : FT D w t mb tr lk) (m : Mk E w w') (hE : ∀ j, Bt D mb j → ¬ E j) : FT D w' t mb tr lk :=
 h.kept m (fun j hj => hE j (Or.inl hj)) (fun j hj => hE j (Or.inr (Or.inr hj))) (hE _ (Or.inr (Or.inl rfl)))
def G2 (n0 : Nat) (ks : List Nat) (w : World) (t : Nat) (mt : Hd) (tr : T) (lk : Int) (u : Nat) (mu : Hd) (ur : T) (uk : Int) : Prop :=
 n0 ≤ w.heap.size ∧ (∀ k ∈ ks, k < w.heap.size) ∧ ∃ Dt Du, FT Dt w t mt tr lk ∧ FT Du w u mu ur uk ∧ (∀ j, Bt Dt mt j → Wr n0 ks j) ∧ (∀ j, Bt Du mu j → Wr n0 ks j) ∧ ∀ j, Bt Dt mt j → ¬ Bt Du mu j
section
variable {n0 : Nat} {ks : List Nat} {w w' : World} {t u : Nat} {mt mu : Hd} {tr ur : T} {lk uk : Int}
theorem G2.swap (h : G2 n0 ks w t mt tr lk u mu ur uk) : G2 n0 ks w u mu ur uk t mt tr lk := by
 obtain ⟨a, b, Dt, Du, h1, h2, h3, h4, h5⟩ := h
 exact ⟨a, b, Du, Dt, h2, h1, h4, h3, fun j hj q => h5 j q hj⟩
theorem G2.mo (h : G2 n0 ks w t mt tr lk u mu ur uk) (m : Mo w w') : G2 n0 ks w' t mt tr lk u mu ur uk := by
 obtain ⟨a, b, Dt, Du, h1, h2, h3, h4, h5⟩ := h
 exact ⟨Nat.le_trans a m.size, fun k e => Nat.lt_of_lt_of_le (b k e) m.size, Dt, Du, h1.mo m, h2.mo m, h3, h4, h5⟩
theorem G2.push (h : G2 n0 ks w t mt tr lk u mu ur uk) {k : Nat} (hk : w.heap.size ≤ k) (hk2 : k < w'.heap.size) (m : Mo w w') : G2 n0 (k :: ks) w' t mt tr lk u mu ur uk := by
 obtain ⟨a, b, Dt, Du, h1, h2, h3, h4, h5⟩ := h
 refine ⟨Nat.le_trans a m.size, fun j e => ?_, Dt, Du, h1.mo m, h2.mo m, fun j e => ⟨(h3 j e).1, fun q => ?_⟩, fun j e => ⟨(h4 j e).1, fun q => ?_⟩, h5⟩
 ·rcases List.mem_cons.1 e with rfl | e
  ·exact hk2
  ·exact Nat.lt_of_lt_of_le (b j e) m.size
 ·rcases List.mem_cons.1 q with rfl | q
  ·have := Bt.lt h1 e; omega
  ·exact (h3 j e).2 q
 ·rcases List.mem_cons.1 q with rfl | q
  ·have := Bt.lt h2 e; omega
  ·exact (h4 j e).2 q
theorem G2.pop (h : G2 n0 ks w t mt tr lk u mu ur uk) {js : List Nat} (hs : ∀ k ∈ js, k ∈ ks) : G2 n0 js w t mt tr lk u mu ur uk := by
 obtain ⟨a, b, Dt, Du, h1, h2, h3, h4, h5⟩ := h
 exact ⟨a, fun k e => b k (hs k e), Dt, Du, h1, h2, fun j e => ⟨(h3 j e).1, fun q => (h3 j e).2 (hs j q)⟩, fun j e => ⟨(h4 j e).1, fun q => (h4 j e).2 (hs j q)⟩, h5⟩
theorem G2.st (h : G2 n0 ks w t mt tr lk u mu ur uk) {k : Nat} (s : St2 k w w') (hk : k ∈ ks) : G2 n0 ks w' t mt tr lk u mu ur uk := by
 obtain ⟨a, b, Dt, Du, h1, h2, h3, h4, h5⟩ := h
 have m := Mk.st1 s
 exact ⟨Nat.le_trans a m.size, fun j e => Nat.lt_of_lt_of_le (b j e) m.size, Dt, Du, h1.keptB m (fun j hj e => (h3 j hj).2 (by rw [e]; exact hk)), h2.keptB m (fun j hj e => (h4 j hj).2 (by rw [e]; exact hk)), h3, h4, h5⟩
theorem G2.left (h : G2 n0 ks w t mt tr lk u mu ur uk) : ∃ K, GP n0 K w t mt tr lk ∧ (∀ j, WrP n0 K j → Wr n0 ks j) ∧ ∀ w' tr' lk', GP n0 K w' t mt tr' lk' → Mk (WrP n0 K) w w' → G2 n0 ks w' t mt tr' lk' u mu ur uk ∧ Mk (Wr n0 ks) w w' := by
 obtain ⟨a, b, Dt, Du, h1, h2, h3, h4, h5⟩ := h
 have sub : ∀ j, WrP n0 (fun j => j ∈ ks ∨ Bt Du mu j) j → Wr n0 ks j := fun j e => ⟨e.1, fun q => e.2 (Or.inl q)⟩
 have key : ∀ j, Bt Dt mt j → WrP n0 (fun j => j ∈ ks ∨ Bt Du mu j) j := fun j hj => ⟨(h3 j hj).1, fun q => by rcases q with q | q; exact (h3 j hj).2 q; exact h5 j hj q⟩
 refine ⟨fun j => j ∈ ks ∨ Bt Du mu j, ⟨a, fun k e => ?_, fun j hj => key j (Or.inr (Or.inr hj)), Dt, h1, fun j hj => key j (by rcases hj with hj | hj; exact Or.inl hj; exact Or.inr (Or.inl hj))⟩, sub, fun w' tr' lk' hG m => ?_⟩
 ·rcases e with e | e
  ·exact b k e
  ·exact Bt.lt h2 e
 ·obtain ⟨c1, c2, c3, D', hF, c4⟩ := hG
  have key2 : ∀ j, Bt D' mt j → WrP n0 (fun j => j ∈ ks ∨ Bt Du mu j) j := fun j hj => by
   rcases hj with hj | hj | hj
   ·exact c4 j (Or.inl hj)
   ·exact c4 j (Or.inr hj)
   ·exact c3 j hj
  exact ⟨⟨c1, fun k e => c2 k (Or.inl e), D', Du, hF, h2.keptB m (fun j hj e => e.2 (Or.inr hj)), fun j hj => sub j (key2 j hj), h4, fun j hj q => (key2 j hj).2 (Or.inr q)⟩, m.sub sub⟩
theorem G2.facts (h : G2 n0 ks w t mt tr lk u mu ur uk) : 0 ≤ lk ∧ tr.sz ≤ 1024 ∧ tr.is.Nodup ∧ (∀ i ∈ tr.is, 1 ≤ i ∧ i ≤ 9007199254740992) ∧ ∀ y ∈ tr.ids, y.ok ∧ y.vs.length = mt.sc.length := by
 obtain ⟨K, hP, _, _⟩ := h.left
 exact ⟨K2.GP.l0 hP, K2.GP.le hP, K2.GP.nd hP, K2.GP.rg hP, K2.GP.oks hP⟩
theorem ins2 {at0 id : Int} {p : Option Addr} {cap : Nat} {vs : List V10} (h : G2 n0 ks w t mt tr lk u mu ur uk) (hi : I64 id) (hlk : lk ≤ 3000000000000000000) (hSV : ∀ w', Mk (Wr n0 ks) w w' → SVv w' p vs) (hvo : ∀ x ∈ vs, x.n.ok) : Calls Try.prog 9 #[pt t 0, .int .i64 at0, .int .i64 id, .slice p vs.length cap] w fun e w' => ∃ tr' lk', e = .returned (.int .i64 (insE mt.sc.length tr at0 id vs.length)) ∧ G2 n0 ks w' t mt tr' lk' u mu ur uk ∧ (insE mt.sc.length tr at0 id vs.length = 0 → ∃ y kn, Ins tr at0 ⟨id, y, vs⟩ kn tr') ∧ lk ≤ lk' ∧ lk' ≤ lk + 10 * tr.ht + 8 ∧ Mk (Wr n0 ks) w w' := by
 obtain ⟨K, hP, sub, hb⟩ := h.left
 refine (K2.ins_any hP hi hlk (fun w' m => hSV w' (m.sub sub)) hvo).mono fun e w' hq => ?_
 obtain ⟨tr', lk', he, hG, hc, hk1, hk2, hM⟩ := hq
 obtain ⟨q1, q2⟩ := hb _ _ _ hG hM
 exact ⟨tr', lk', he, q1, fun e0 => by rcases hc with ⟨_, h, _⟩ | ⟨h, _⟩; exact h; exact absurd e0 h, hk1, hk2, q2⟩
theorem del2 {id : Int} (h : G2 n0 ks w t mt tr lk u mu ur uk) (hi : I64 id) (hlk : lk ≤ 2900000000000000000) : Calls Try.prog 15 #[pt t 0, .int .i64 id] w fun e w' => ∃ p c tr' lk', e = .returned (.tuple #[.int .i64 p, .int .i64 c]) ∧ G2 n0 ks w' t mt tr' lk' u mu ur uk ∧ lk ≤ lk' ∧ lk' ≤ lk + 3 + 11 * tr.ht ∧ Mk (Wr n0 ks) w w' := by
 obtain ⟨K, hP, sub, hb⟩ := h.left
 refine (K2.del_any hP hi hlk).mono fun e w' hq => ?_
 obtain ⟨p, c, tr', lk', he, hG, _, hk1, hk2, hM⟩ := hq
 obtain ⟨q1, q2⟩ := hb _ _ _ hG hM
 exact ⟨p, c, tr', lk', he, q1, hk1, hk2, q2⟩
theorem mov2 {id at0 : Int} (h : G2 n0 ks w t mt tr lk u mu ur uk) (hi : I64 id) (hlk : lk ≤ 2900000000000000000) : Calls Try.prog 16 #[pt t 0, .int .i64 id, .int .i64 at0] w fun e w' => ∃ p c tr' lk', e = .returned (.tuple #[.int .i64 p, .int .i64 c]) ∧ G2 n0 ks w' t mt tr' lk' u mu ur uk ∧ lk ≤ lk' ∧ lk' ≤ lk + 100000 ∧ Mk (Wr n0 ks) w w' := by
 have hf := h.facts
 obtain ⟨K, hP, sub, hb⟩ := h.left
 refine (K2.mov_any hP hi hlk).mono fun e w' hq => ?_
 obtain ⟨p, c, tr', lk', he, hG, hc, hk1, hM⟩ := hq
 obtain ⟨q1, q2⟩ := hb _ _ _ hG hM
 refine ⟨p, c, tr', lk', he, q1, hk1, ?_, q2⟩
 rcases hc with ⟨_, _, _, _, y, kn, tr1, _, _, hD, _, h9⟩ | ⟨_, _, _, h9⟩
 ·have := hD.sz
  have := T.ht_le tr1
  have := T.ht_le tr
  omega
 ·omega
theorem set2 {id cn : Int} {x : V10} (h : G2 n0 ks w t mt tr lk u mu ur uk) (hi : I64 id) (hx : x.n.ok) (hlk : lk ≤ 3000000000000000000) : Calls Try.prog 17 #[pt t 0, .int .i64 id, .int .i64 cn, V10.v x] w fun e w' => ∃ c tr' lk', e = .returned (.int .i64 c) ∧ G2 n0 ks w' t mt tr' lk' u mu ur uk ∧ lk ≤ lk' ∧ lk' ≤ lk + 3 * tr.ht ∧ Mk (Wr n0 ks) w w' := by
 obtain ⟨K, hP, sub, hb⟩ := h.left
 refine (K2.set_any hP hi hx hlk).mono fun e w' hq => ?_
 obtain ⟨c, tr', lk', he, hG, _, hk1, hk2, hM⟩ := hq
 obtain ⟨q1, q2⟩ := hb _ _ _ hG hM
 exact ⟨c, tr', lk', he, q1, hk1, hk2, q2⟩
theorem sum2 {c : Nat} (h : G2 n0 ks w t mt tr lk u mu ur uk) (hc : c < mt.sc.length) (hlk : lk ≤ 3000000000000000000) : Calls Try.prog 12 #[pt t 0, .int .i64 ((c : Nat) : Int)] w fun e w' => ∃ lk', e = .returned (.tuple #[smv (col c (mt.sc.getD c 0) tr.ids), .int .i64 0]) ∧ G2 n0 ks w' t mt tr lk' u mu ur uk ∧ lk ≤ lk' ∧ lk' ≤ lk + 1 ∧ Mk (Wr n0 ks) w w' := by
 obtain ⟨K, hP, sub, hb⟩ := h.left
 refine (K2.sum_any (cn := ((c : Nat) : Int)) hP hlk).mono fun e w' hq => ?_
 obtain ⟨S, cd, lk', he, hG, hr, hk1, hk2, hM⟩ := hq
 obtain ⟨q1, q2⟩ := hb _ _ _ hG hM
 obtain ⟨_, rfl, rfl⟩ := hr.resolve_right (fun h => h.1 (by omega))
 exact ⟨lk', he, q1, hk1, hk2, q2⟩
theorem qry2 {c a b : Nat} (h : G2 n0 ks w t mt tr lk u mu ur uk) (hc : c < mt.sc.length) (ha : a ≤ b) (hb9 : (b : Int) ≤ tr.sz) (hlk : lk ≤ 3000000000000000000) : Calls Try.prog 11 #[pt t 0, .int .i64 ((c : Nat) : Int), .int .i64 ((a : Nat) : Int), .int .i64 ((b : Nat) : Int)] w fun e w' => ∃ lk', e = .returned (.tuple #[smv (prt c (mt.sc.getD c 0) a b tr.ids), .int .i64 0]) ∧ G2 n0 ks w' t mt tr lk' u mu ur uk ∧ lk ≤ lk' ∧ lk' ≤ lk + 1 + 4 * tr.ht ∧ Mk (Wr n0 ks) w w' := by
 obtain ⟨K, hP, sub, hb⟩ := h.left
 refine (K2.qry_any (cn := ((c : Nat) : Int)) (fa := ((a : Nat) : Int)) (ta := ((b : Nat) : Int)) hP hlk).mono fun e w' hq => ?_
 obtain ⟨S, cd, lk', he, hG, hr, hk1, hk2, hM⟩ := hq
 obtain ⟨q1, q2⟩ := hb _ _ _ hG hM
 obtain ⟨_, rfl, rfl⟩ := hr.resolve_right (fun h => h.1 (by omega))
 exact ⟨lk', he, q1, hk1, hk2, q2⟩
theorem len2 (h : G2 n0 ks w t mt tr lk u mu ur uk) : Calls Try.prog 10 #[pt t 0] w fun e w' => e = .returned (.int .i64 (tr.kv.length : Int)) ∧ Mo w w' := by
 obtain ⟨_, _, Dt, Du, h1, _⟩ := h
 obtain ⟨R, root, hS, _⟩ := h1.ts
 exact len_n hS h1.om
theorem new2 {p : Option Addr} {c : Nat} {sc : List Int} (h : GT n0 [] w t mt .e 0) (hr : SN w p sc) (hle : sc.length ≤ 64) : Calls Try.prog 7 #[.slice p sc.length c] w fun e w' => ∃ (u : Nat) (mu : Hd), e = .returned (.tuple #[pt u 0, .int .i64 0]) ∧ G2 n0 [] w' t mt .e 0 u mu .e 0 ∧ mu.sc = sc ∧ Mo w w' := by
 obtain ⟨a, _, a3, Dt, h1, a4⟩ := h
 refine (new_ok hr (decide_eq_false (by omega))).mono fun e w' hq => ?_
 obtain ⟨u, mu, Du, he, hF, hs, hD, hm, hb, M⟩ := hq
 have kt : ∀ j, Bt Dt mt j → j < w.heap.size := fun j hj => Bt.lt h1 hj
 have ku : ∀ j, Bt Du mu j → w.heap.size ≤ j := fun j hj => by
  rcases hj with hj | rfl | hj
  ·exact hD j hj
  ·exact hm
  ·exact hb j hj
 refine ⟨u, mu, he, ⟨Nat.le_trans a M.size, fun k e => (by cases e), Dt, Du, h1.mo M, hF, fun j hj => ?_, fun j hj => ⟨Nat.le_trans a (ku j hj), fun q => by cases q⟩, fun j hj q => by have := kt j hj; have := ku j q; omega⟩, hs, M⟩
 rcases hj with hj | hj | hj
 ·exact a4 j (Or.inl hj)
 ·exact a4 j (Or.inr hj)
 ·exact a3 j hj
end
end G
end Go.Proofs.Ythfemlhmnjfjiaa
/-
 Ids and rows of values put behind slices of one's own.
-/
namespace Go.Proofs.Ythfemlhmnjfjiaa
open Go.RowKit
namespace G
theorem inf259 : ∃ i, Try.prog.info? 2 = some i ∧ i.zero = some (.int .i64 0) ∧ i.size = 1 ∧ i.bytes = 8 := by
 have h : (Try.prog.info? 2).map (fun i => (i.zero, i.size, i.bytes)) = some (some (.int .i64 0), 1, 8) := by kernel_rfl
 cases hi : Try.prog.info? 2 with
 | none => rw [hi] at h; cases h
 | some i =>
  rw [hi] at h
  simp at h
  exact ⟨i, rfl, h.1, h.2.1, h.2.2⟩
theorem own_mo59 {w w' : World} {N : Nat} {v : Value} {n : Nat} {xs : List Value} (h : w.ownsRow N 2 1 v n xs) (m : Mo w w') : w'.ownsRow N 2 1 v n xs :=
 h.kept (row := none) ⟨m.1.os, m.1.tape, m.1.output, m.1.size, fun k hk _ => m.1.block k hk⟩ (by cases e : v.ownBlock <;> simp)
theorem app59 (w : World) (ty : TypeId) (N : Nat) (v : Value) (n : Nat) (xs : List Value) (hown : w.ownsRow N 2 1 v n xs) (k m c : Nat) (news : List Value) (hl : news.length = m * 1) (hA : At w k news) (h1 : ∀ u ∈ news, u.oneCell' = true) (hm : 0 < m) (hn : n + m ≤ 700000000000) (hN : N ≤ w.heap.size) :
  ∃ v' w', (Builtin.append_ #[59, 59] ty #[v, .slice (some ⟨k, 0, none⟩) m c]).run Try.prog w = .ok v' w' ∧ w'.ownsRow N 2 1 v' (n + m) (xs ++ news) ∧ AppW v w w' ∧ (v'.ownBlock = v.ownBlock ∨ v'.ownBlock = some w.heap.size) := by
 obtain ⟨i, hi, hz, hs, hby⟩ := inf259
 have hnews : ∀ j u, news[j]? = some u → w.cell? ((⟨k, 0, none⟩ : Addr).add j) = some u := fun j u hu => by
  rw [Addr.add_mid]; have := hA.1 j u hu; simpa using this
 obtain ⟨v', w', hr, h2, h3, _, h5⟩ := run_append_own_at (P := Try.prog) w N 59 ty 2 i _ 1 8 Try.underlying59 hi hz hs hby rfl (by decide) v n xs hown ⟨k, 0, none⟩ m c news hl hnews h1 (by unfold maxLen; omega) (by omega) hN
 refine ⟨v', w', hr, h2, ⟨h3.os, h3.tape, h3.output, h3.size, fun j hj hne => h3.block j hj (fun e => hne e.symm), ?_⟩, h5⟩
 rcases hown.2 with ⟨rfl, rfl⟩ | ⟨g, cap, cur, rfl, hbg, hg, hnc, hcm, hcs, htake⟩
 ·have hr2 := run_append_nil (P := Try.prog) w 59 ty 2 i _ Try.underlying59 hi hz ⟨k, 0, none⟩ m c news (by rw [hs]; exact hl) hnews hm (by omega) (by first | omega | (rw [hby]; omega) | (rw [hby]; exact growslice_fits (n := 0) (by omega) (by omega)))
  rw [hr2] at hr
  cases hr
  exact ((Mo.refl w).drew.alloc _ _).2
 ·by_cases hroom : n + m ≤ cap
  ·have hr2 := run_append_room (P := Try.prog) w 59 ty 2 i Try.underlying59 hi g n cap cur hg ⟨k, 0, none⟩ m c news (by rw [hs]; exact hl) hnews h1 hroom (by rw [hs]; first | omega | (rw [hl]; omega) | (simp [hl]; omega))
   rw [hr2] at hr
   cases hr
   intro a
   by_cases e : a.block = g
   ·have h9 := setRow_heap w g cur (cur.toList.take (n * i.size) ++ news ++ cur.toList.drop (n * i.size + news.length)).toArray 2 (0, 0) hg
    simp only [World.frozen?, e, h9, hg]
   ·exact World.frozen?_of_block (setRow_other w g a.block _ e)
  ·have hr2 := run_append_grow (P := Try.prog) w 59 ty 2 i _ Try.underlying59 hi hz ⟨g, 0, none⟩ n cap xs (by rw [hs]; exact hown.1) (hown.cells (g := g) rfl) ⟨k, 0, none⟩ m c news (by rw [hs]; exact hl) hnews (by omega) (by omega) (by rw [hby]; exact growslice_fits (by omega) (by omega))
   rw [hr2] at hr
   cases hr
   exact ((Mo.refl w).drew.alloc _ _).2
section
variable {o : Oper} {n : Nat} {l : List (Nat × Value)} {w : World} {ops : Array Oper} {rest : List Oper} {Q : Exit → Act → World → Prop} {K : Act → World → Prop}
theorem wl_app59 (s x : Operand) (N : Nat) (v : Value) (q : Nat) (xs : List Value) (k m c : Nat) (news : List Value) (ho : o.op = .call { callee := .builtin .append, args := #[s, x], argTypes := #[59, 59] }) (hs : evl n l s = v) (hx : evl n l x = .slice (some ⟨k, 0, none⟩) m c)
  (hown : w.ownsRow N 2 1 v q xs) (hl : news.length = m * 1) (hA : At w k news) (h1 : ∀ u ∈ news, u.oneCell' = true) (hm : 0 < m) (hn : q + m ≤ 700000000000) (hN : N ≤ w.heap.size) (hg : wnt n l ops o = true)
  (hk : ∀ v' w', w'.ownsRow N 2 1 v' (q + m) (xs ++ news) → AppW v w w' → (v'.ownBlock = v.ownBlock ∨ v'.ownBlock = some w.heap.size) → WL Try.prog ops Q rest n (ext l o.dst v') w') : WL Try.prog ops Q (o :: rest) n l w := by
 obtain ⟨v', w', hr, h2, h3, h4⟩ := app59 w o.type N v q xs hown k m c news hl hA h1 hm hn hN
 refine ⟨l_step hg (o_val v' (w' := w') ?_ (hk v' w' h2 h3 h4).out)⟩
 unfold execOp
 simp only [ho, resolve, invoke, builtin, Sem.run_bind, Sem.run_pure, Result.andThen_ok, List.map_toArray, List.map_cons, List.map_nil, hs, hx, hr]
end
theorem own_st259 {w w' : World} {N k : Nat} {v : Value} {n : Nat} {xs : List Value} (h : w.ownsRow N 2 1 v n xs) (m : St2 k w w') (hne : v.ownBlock ≠ some k) : w'.ownsRow N 2 1 v n xs :=
 h.kept (row := some k) ⟨m.os, m.tape, m.output, Nat.le_of_eq m.size.symm, fun j _ hj => m.block j (fun e => hj (by rw [e]))⟩ (Or.inr hne)
theorem own_grown59 {w w' : World} {row : Option Nat} {N : Nat} {v : Value} {n : Nat} {xs : List Value} (h : w.ownsRow N 2 1 v n xs) (hg : w.grownBy w' row) (hr : ∀ r, row = some r → ∃ o : Obj, w.heap[r]? = some o ∧ o.isCells = false) : w'.ownsRow N 2 1 v n xs :=
 h.kept hg (by
  rcases h.2 with ⟨rfl, _⟩ | ⟨g, cap, cur, rfl, _, hg0, _⟩
  ·exact Or.inl rfl
  ·refine Or.inr (fun e => ?_)
   obtain ⟨o, ho, hc⟩ := hr g e.symm
   rw [hg0] at ho; cases ho; cases hc)
theorem inf260 : ∃ i, Try.prog.info? 29 = some i ∧ i.zero = some (.slice none 0 0) ∧ i.size = 1 ∧ i.bytes = 24 := by
 have h : (Try.prog.info? 29).map (fun i => (i.zero, i.size, i.bytes)) = some (some (.slice none 0 0), 1, 24) := by kernel_rfl
 cases hi : Try.prog.info? 29 with
 | none => rw [hi] at h; cases h
 | some i =>
  rw [hi] at h
  simp at h
  exact ⟨i, rfl, h.1, h.2.1, h.2.2⟩
theorem own_mo60 {w w' : World} {N : Nat} {v : Value} {n : Nat} {xs : List Value} (h : w.ownsRow N 29 1 v n xs) (m : Mo w w') : w'.ownsRow N 29 1 v n xs :=
 h.kept (row := none) ⟨m.1.os, m.1.tape, m.1.output, m.1.size, fun k hk _ => m.1.block k hk⟩ (by cases e : v.ownBlock <;> simp)
theorem app60 (w : World) (ty : TypeId) (N : Nat) (v : Value) (n : Nat) (xs : List Value) (hown : w.ownsRow N 29 1 v n xs) (k m c : Nat) (news : List Value) (hl : news.length = m * 1) (hA : At w k news) (h1 : ∀ u ∈ news, u.oneCell' = true) (hm : 0 < m) (hn : n + m ≤ 700000000000) (hN : N ≤ w.heap.size) :
  ∃ v' w', (Builtin.append_ #[60, 60] ty #[v, .slice (some ⟨k, 0, none⟩) m c]).run Try.prog w = .ok v' w' ∧ w'.ownsRow N 29 1 v' (n + m) (xs ++ news) ∧ AppW v w w' ∧ (v'.ownBlock = v.ownBlock ∨ v'.ownBlock = some w.heap.size) := by
 obtain ⟨i, hi, hz, hs, hby⟩ := inf260
 have hnews : ∀ j u, news[j]? = some u → w.cell? ((⟨k, 0, none⟩ : Addr).add j) = some u := fun j u hu => by
  rw [Addr.add_mid]; have := hA.1 j u hu; simpa using this
 obtain ⟨v', w', hr, h2, h3, _, h5⟩ := run_append_own_at (P := Try.prog) w N 60 ty 29 i _ 1 24 Try.underlying60 hi hz hs hby rfl (by decide) v n xs hown ⟨k, 0, none⟩ m c news hl hnews h1 (by unfold maxLen; omega) (by omega) hN
 refine ⟨v', w', hr, h2, ⟨h3.os, h3.tape, h3.output, h3.size, fun j hj hne => h3.block j hj (fun e => hne e.symm), ?_⟩, h5⟩
 rcases hown.2 with ⟨rfl, rfl⟩ | ⟨g, cap, cur, rfl, hbg, hg, hnc, hcm, hcs, htake⟩
 ·have hr2 := run_append_nil (P := Try.prog) w 60 ty 29 i _ Try.underlying60 hi hz ⟨k, 0, none⟩ m c news (by rw [hs]; exact hl) hnews hm (by omega) (by first | omega | (rw [hby]; omega) | (rw [hby]; exact growslice_fits (n := 0) (by omega) (by omega)))
  rw [hr2] at hr
  cases hr
  exact ((Mo.refl w).drew.alloc _ _).2
 ·by_cases hroom : n + m ≤ cap
  ·have hr2 := run_append_room (P := Try.prog) w 60 ty 29 i Try.underlying60 hi g n cap cur hg ⟨k, 0, none⟩ m c news (by rw [hs]; exact hl) hnews h1 hroom (by rw [hs]; first | omega | (rw [hl]; omega) | (simp [hl]; omega))
   rw [hr2] at hr
   cases hr
   intro a
   by_cases e : a.block = g
   ·have h9 := setRow_heap w g cur (cur.toList.take (n * i.size) ++ news ++ cur.toList.drop (n * i.size + news.length)).toArray 29 (0, 0) hg
    simp only [World.frozen?, e, h9, hg]
   ·exact World.frozen?_of_block (setRow_other w g a.block _ e)
  ·have hr2 := run_append_grow (P := Try.prog) w 60 ty 29 i _ Try.underlying60 hi hz ⟨g, 0, none⟩ n cap xs (by rw [hs]; exact hown.1) (hown.cells (g := g) rfl) ⟨k, 0, none⟩ m c news (by rw [hs]; exact hl) hnews (by omega) (by omega) (by rw [hby]; exact growslice_fits (by omega) (by omega))
   rw [hr2] at hr
   cases hr
   exact ((Mo.refl w).drew.alloc _ _).2
theorem appk60 (w : World) (ty : TypeId) (N : Nat) (v : Value) (n : Nat) (xs : List Value) (hown : w.ownsRow N 29 1 v n xs) (k m c : Nat) (news : List Value) (hl : news.length = m * 1) (hA : At w k news) (h1 : ∀ u ∈ news, u.oneCell' = true) (hm : 0 < m) (hn : n + m ≤ 700000000000) (hN : N ≤ w.heap.size) :
  ∃ v' w', (Builtin.append_ #[60, 60] ty #[v, .slice (some ⟨k, 0, none⟩) m c]).run Try.prog w = .ok v' w' ∧ w'.ownsRow N 29 1 v' (n + m) (xs ++ news) ∧ AppW v w w' ∧ (v'.ownBlock = v.ownBlock ∨ v'.ownBlock = some w.heap.size) ∧ w'.ownsRow N 29 1 v n xs := by
 obtain ⟨v', w', hr, h2, h3, h5⟩ := app60 w ty N v n xs hown k m c news hl hA h1 hm hn hN
 refine ⟨v', w', hr, h2, h3, h5, ?_⟩
 obtain ⟨i, hi, hz, hs, hby⟩ := inf260
 have hnews : ∀ j u, news[j]? = some u → w.cell? ((⟨k, 0, none⟩ : Addr).add j) = some u := fun j u hu => by
  rw [Addr.add_mid]; have := hA.1 j u hu; simpa using this
 rcases hown.2 with ⟨rfl, rfl⟩ | ⟨g, cap, cur, rfl, hbg, hg, hnc, hcm, hcs, htake⟩
 ·exact ⟨hown.1, .inl ⟨rfl, rfl⟩⟩
 ·by_cases hroom : n + m ≤ cap
  ·have hr2 := run_append_room (P := Try.prog) w 60 ty 29 i Try.underlying60 hi g n cap cur hg ⟨k, 0, none⟩ m c news (by rw [hs]; exact hl) hnews h1 hroom (by rw [hs]; first | omega | (rw [hl]; omega) | (simp [hl]; omega))
   rw [hr2] at hr
   cases hr
   have h9 := setRow_heap w g cur (cur.toList.take (n * i.size) ++ news ++ cur.toList.drop (n * i.size + news.length)).toArray 29 (0, 0) hg
   rw [hs] at h9 ⊢
   have hsz : n * 1 + m * 1 ≤ cap * 1 := by rw [← Nat.add_mul]; exact Nat.mul_le_mul_right _ hroom
   have hcl : cur.toList.length = cap * 1 := by simpa using hcs
   refine ⟨hown.1, .inr ⟨g, cap, _, rfl, hbg, h9, hnc, hcm, ?_, ?_⟩⟩
   ·have : (cur.toList.take (n * 1) ++ news ++ cur.toList.drop (n * 1 + news.length)).length = cap * 1 := by
     rw [List.length_append, List.length_append, List.length_take, List.length_drop, hcl, hl]; omega
    simpa using this
   ·show (cur.toList.take (n * 1) ++ news ++ cur.toList.drop (n * 1 + news.length)).take (n * 1) = xs
    rw [List.append_assoc, List.take_append_of_le_length (by rw [List.length_take]; omega), List.take_take, Nat.min_self]; exact htake
  ·have hr2 := run_append_grow (P := Try.prog) w 60 ty 29 i _ Try.underlying60 hi hz ⟨g, 0, none⟩ n cap xs (by rw [hs]; exact hown.1) (hown.cells (g := g) rfl) ⟨k, 0, none⟩ m c news (by rw [hs]; exact hl) hnews (by omega) (by omega) (by rw [hby]; exact growslice_fits (by omega) (by omega))
   rw [hr2] at hr
   cases hr
   exact own_mo60 hown ((Mo.refl w).drew.alloc _ _)
section
variable {o : Oper} {n : Nat} {l : List (Nat × Value)} {w : World} {ops : Array Oper} {rest : List Oper} {Q : Exit → Act → World → Prop} {K : Act → World → Prop}
theorem wo_app60 (s x : Operand) (N : Nat) (v : Value) (q : Nat) (xs : List Value) (k m c : Nat) (news : List Value) (ho : o.op = .call { callee := .builtin .append, args := #[s, x], argTypes := #[60, 60] }) (hs : evl n l s = v) (hx : evl n l x = .slice (some ⟨k, 0, none⟩) m c)
  (hown : w.ownsRow N 29 1 v q xs) (hl : news.length = m * 1) (hA : At w k news) (h1 : ∀ u ∈ news, u.oneCell' = true) (hm : 0 < m) (hn : q + m ≤ 700000000000) (hN : N ≤ w.heap.size)
  (hk : ∀ v' w', w'.ownsRow N 29 1 v' (q + m) (xs ++ news) → AppW v w w' → w'.ownsRow N 29 1 v q xs → (v'.ownBlock = v.ownBlock ∨ v'.ownBlock = some w.heap.size) → K (fr n (ext l o.dst v')) w') : WO Try.prog o n l w K Q := by
 obtain ⟨v', w', hr, h2, h3, h6, h5⟩ := appk60 w o.type N v q xs hown k m c news hl hA h1 hm hn hN
 refine ⟨o_val v' (w' := w') ?_ (hk v' w' h2 h3 h5 h6)⟩
 unfold execOp
 simp only [ho, resolve, invoke, builtin, Sem.run_bind, Sem.run_pure, Result.andThen_ok, List.map_toArray, List.map_cons, List.map_nil, hs, hx, hr]
end
theorem own_st260 {w w' : World} {N k : Nat} {v : Value} {n : Nat} {xs : List Value} (h : w.ownsRow N 29 1 v n xs) (m : St2 k w w') (hne : v.ownBlock ≠ some k) : w'.ownsRow N 29 1 v n xs :=
 h.kept (row := some k) ⟨m.os, m.tape, m.output, Nat.le_of_eq m.size.symm, fun j _ hj => m.block j (fun e => hj (by rw [e]))⟩ (Or.inr hne)
theorem own_grown60 {w w' : World} {row : Option Nat} {N : Nat} {v : Value} {n : Nat} {xs : List Value} (h : w.ownsRow N 29 1 v n xs) (hg : w.grownBy w' row) (hr : ∀ r, row = some r → ∃ o : Obj, w.heap[r]? = some o ∧ o.isCells = false) : w'.ownsRow N 29 1 v n xs :=
 h.kept hg (by
  rcases h.2 with ⟨rfl, _⟩ | ⟨g, cap, cur, rfl, _, hg0, _⟩
  ·exact Or.inl rfl
  ·refine Or.inr (fun e => ?_)
   obtain ⟨o, ho, hc⟩ := hr g e.symm
   rw [hg0] at ho; cases ho; cases hc)
end G
end Go.Proofs.Ythfemlhmnjfjiaa
/-
 Ids and rows told in two slices of the law's own.
-/
namespace Go.Proofs.Ythfemlhmnjfjiaa
open Go.RowKit
namespace G
theorem AppW.mkk {v : Value} {w w' : World} (a : AppW v w w') : Mk (fun j => v.ownBlock = some j) w w' := ⟨a.os, a.tape, a.output, a.size, fun k hk hn => a.block k hk hn, a.fz⟩
theorem AppW.gr {v : Value} {w w' : World} (a : AppW v w w') : w.grownBy w' v.ownBlock := ⟨a.os, a.tape, a.output, a.size, fun k hk hn => a.block k hk (fun e => hn e.symm)⟩
theorem own_app59 {v1 v2 : Value} {w w' : World} {N n : Nat} {xs : List Value} (h : w.ownsRow N 2 1 v2 n xs) (a : AppW v1 w w') (hd : ∀ b, v1.ownBlock = some b → v2.ownBlock ≠ some b) : w'.ownsRow N 2 1 v2 n xs := by
 have h0 := h
 rcases h.2 with ⟨rfl, _⟩ | ⟨g, cap, cur, rfl, _⟩
 ·exact h0.kept a.gr (Or.inl rfl)
 ·exact h0.kept a.gr (Or.inr (fun e => hd g e.symm rfl))
theorem own_app60 {v1 v2 : Value} {w w' : World} {N n : Nat} {xs : List Value} (h : w.ownsRow N 29 1 v2 n xs) (a : AppW v1 w w') (hd : ∀ b, v1.ownBlock = some b → v2.ownBlock ≠ some b) : w'.ownsRow N 29 1 v2 n xs := by
 have h0 := h
 rcases h.2 with ⟨rfl, _⟩ | ⟨g, cap, cur, rfl, _⟩
 ·exact h0.kept a.gr (Or.inl rfl)
 ·exact h0.kept a.gr (Or.inr (fun e => hd g e.symm rfl))
structure HR (B k1 k2 : Nat) (L1 : List Int) (pre : List (Py × Value)) (W : World) (v1 v2 : Value) (U : List Value) : Prop where
 a1 : At W k1 [v1]
 a2 : At W k2 [v2]
 o1 : W.ownsRow B 2 1 v1 L1.length (L1.map (fun i => Value.int .i64 i))
 o2 : W.ownsRow B 29 1 v2 pre.length U
 ur : ∀ (i : Nat) (x : Py × Value) (u : Value), pre[i]? = some x → U[i]? = some u → Rw W 10 u (x.1.vs.map V10.cells)
 us : ∀ u ∈ U, ∃ p n c, u = Value.slice p n c
 ub : ∀ u ∈ U, ∀ b, ob u = some b → B ≤ b ∧ b < W.heap.size ∧ v1.ownBlock ≠ some b ∧ v2.ownBlock ≠ some b
 d12 : ∀ b, v1.ownBlock = some b → v2.ownBlock ≠ some b
 k1B : k1 < B
 k2B : k2 < B
 k12 : k1 ≠ k2
section
variable {B k1 k2 : Nat} {L1 : List Int} {pre : List (Py × Value)} {W : World} {v1 v2 : Value} {U : List Value}
theorem HR.ul (h : HR B k1 k2 L1 pre W v1 v2 U) : U.length = pre.length := by have := h.o2.1; omega
theorem HR.n1 (h : HR B k1 k2 L1 pre W v1 v2 U) {j : Nat} (hj : j < B) : v1.ownBlock ≠ some j := fun e => by have := (h.o1.lt j e).1; omega
theorem HR.n2 (h : HR B k1 k2 L1 pre W v1 v2 U) {j : Nat} (hj : j < B) : v2.ownBlock ≠ some j := fun e => by have := (h.o2.lt j e).1; omega
theorem HR.grown {W' : World} {row : Option Nat} (h : HR B k1 k2 L1 pre W v1 v2 U) (hg : W.grownBy W' row) (hr : ∀ r, row = some r → ∃ o : Obj, W.heap[r]? = some o ∧ o.isCells = false) : HR B k1 k2 L1 pre W' v1 v2 U :=
 ⟨At.grown h.a1 hg hr, At.grown h.a2 hg hr, own_grown59 h.o1 hg hr, own_grown60 h.o2 hg hr, fun i x u a b => (h.ur i x u a b).grown hg hr, h.us, fun u hu b hb => ⟨(h.ub u hu b hb).1, Nat.lt_of_lt_of_le (h.ub u hu b hb).2.1 hg.size, (h.ub u hu b hb).2.2⟩, h.d12, h.k1B, h.k2B, h.k12⟩
theorem HR.mo {W' : World} (h : HR B k1 k2 L1 pre W v1 v2 U) (m : Mo W W') : HR B k1 k2 L1 pre W' v1 v2 U := h.grown (R.mo_grown m) (fun _ e => by cases e)
theorem HR.ids {wa wb wc : World} {i : Int} {v : Value} (h : HR B k1 k2 L1 pre W v1 v2 U) (m : Mo W wa) (a : AppW v1 wa wb) (ho : wb.ownsRow B 2 1 v (L1.length + 1) (L1.map (fun i => Value.int .i64 i) ++ [.int .i64 i])) (hb : v.ownBlock = v1.ownBlock ∨ v.ownBlock = some wa.heap.size) (s : St2 k1 wb wc) (Q : At wc k1 [v]) :
  HR B k1 k2 (L1 ++ [i]) pre wc v v2 U ∧ Mk (fun j => j = k1 ∨ v1.ownBlock = some j) W wc := by
 have hm := h.mo m
 have hms := m.size
 have hM : Mk (fun j => j = k1 ∨ v1.ownBlock = some j) W wc := ((Mk.of _ m).tr a.mkk (fun _ _ e => Or.inr e)).tr (Mk.st1 s) (fun _ _ e => Or.inl e)
 have hvB : ∀ b, v.ownBlock = some b → B ≤ b := fun b e => (ho.lt b e).1
 have hnew : ∀ b, b < W.heap.size → v1.ownBlock ≠ some b → v.ownBlock ≠ some b := fun b hb9 hn e => by
  rcases hb with h9 | h9
  ·exact hn (h9.symm.trans e)
  ·rw [h9] at e; cases e; omega
 refine ⟨⟨Q, ?_, ?_, ?_, fun j x u e1 e2 => ?_, h.us, fun u hu b hb9 => ?_, fun b e1 e2 => ?_, h.k1B, h.k2B, h.k12⟩, hM⟩
 ·exact hM.at h.a2 (fun e => by rcases e with e | e; exact h.k12 e.symm; exact h.n1 h.k2B e)
 ·have := own_st259 ho s (fun e => by have := hvB k1 e; have := h.k1B; omega)
  rw [List.map_append, List.length_append]; exact this
 ·exact own_st260 (own_app60 hm.o2 a h.d12) s (h.n2 h.k1B)
 ·exact (h.ur j x u e1 e2).kept hM (fun b hb9 e => by
   have := h.ub u (List.mem_of_getElem? e2) b hb9
   rcases e with e | e
   ·have := h.k1B; omega
   ·exact this.2.2.1 e)
 ·obtain ⟨c1, c2, c3, c4⟩ := h.ub u hu b hb9
  exact ⟨c1, Nat.lt_of_lt_of_le c2 hM.size, hnew b c2 c3, c4⟩
 ·have hlt := (h.o2.lt b e2).2
  exact hnew b hlt (fun e => h.d12 b e e2) e1
theorem HR.rows {wb wc : World} {x : Py × Value} {u v : Value} (h : HR B k1 k2 L1 pre W v1 v2 U) (hB : B ≤ W.heap.size) (a : AppW v2 W wb) (ho : wb.ownsRow B 29 1 v (pre.length + 1) (U ++ [u])) (hb : ∀ b, b < W.heap.size → v2.ownBlock ≠ some b → v.ownBlock ≠ some b) (hu : Rw wb 10 u (x.1.vs.map V10.cells)) (hs : ∃ p n c, u = Value.slice p n c) (hub : ∀ b, ob u = some b → W.heap.size ≤ b ∧ v.ownBlock ≠ some b) (s : St2 k2 wb wc) (Q : At wc k2 [v]) :
  HR B k1 k2 L1 (pre ++ [x]) wc v1 v (U ++ [u]) ∧ Mk (fun j => j = k2 ∨ v2.ownBlock = some j) W wc := by
 have hM : Mk (fun j => j = k2 ∨ v2.ownBlock = some j) W wc := (a.mkk.sub (fun _ e => Or.inr e)).tr (Mk.st1 s) (fun _ _ e => Or.inl e)
 have hvB : ∀ b, v.ownBlock = some b → B ≤ b := fun b e => (ho.lt b e).1
 have h21 : ∀ b, v2.ownBlock = some b → v1.ownBlock ≠ some b := fun b e q => h.d12 b q e
 refine ⟨⟨?_, Q, ?_, ?_, fun j y w e1 e2 => ?_, fun w hw => ?_, fun w hw b hb9 => ?_, fun b e1 => ?_, h.k1B, h.k2B, h.k12⟩, hM⟩
 ·exact hM.at h.a1 (fun e => by rcases e with e | e; exact h.k12 e; exact h.n2 h.k1B e)
 ·exact own_st259 (own_app59 h.o1 a h21) s (h.n1 h.k2B)
 ·have := own_st260 ho s (fun e => by have := hvB k2 e; have := h.k2B; omega)
  rw [List.length_append]; exact this
 ·have hul := h.ul
  have hst : ∀ {u' : Value} {L : List (List Value)}, Rw wb 10 u' L → (∀ b, ob u' = some b → b ≠ k2) → Rw wc 10 u' L := fun r hh => r.kd (fun b hb => s.block b (hh b hb))
  rcases Nat.lt_or_ge j pre.length with hj | hj
  ·rw [List.getElem?_append_left hj] at e1
   rw [List.getElem?_append_left (by omega)] at e2
   have hmem := List.mem_of_getElem? e2
   exact (h.ur j y w e1 e2).kept hM (fun b hb9 e => by
    have := h.ub w hmem b hb9
    rcases e with e | e
    ·have := h.k2B; omega
    ·exact this.2.2.2 e)
  ·have hj2 : j = pre.length := by
    have := (List.getElem?_eq_some_iff.1 e1).1
    rw [List.length_append] at this
    simp at this; omega
   subst hj2
   rw [List.getElem?_append_right (Nat.le_refl _)] at e1
   rw [List.getElem?_append_right (by omega)] at e2
   simp at e1
   rw [hul] at e2
   simp at e2
   subst e1 e2
   exact hst hu (fun b hb9 e => by have := (hub b hb9).1; have := h.k2B; omega)
 ·rcases List.mem_append.1 hw with hw | hw
  ·exact h.us w hw
  ·rw [List.mem_singleton.1 hw]; exact hs
 ·rcases List.mem_append.1 hw with hw | hw
  ·obtain ⟨c1, c2, c3, c4⟩ := h.ub w hw b hb9
   exact ⟨c1, Nat.lt_of_lt_of_le c2 hM.size, c3, hb b c2 c4⟩
  ·rw [List.mem_singleton.1 hw] at hb9
   have h1 := hub b hb9
   refine ⟨by omega, ?_, fun e => ?_, h1.2⟩
   ·have := hu.lt hb9; have := s.size; omega
   ·have := (h.o1.lt b e).2; omega
 ·exact hb b (h.o1.lt b e1).2 (h.d12 b e1)
end
theorem R.keeps_mk3 {B : Nat} {D : Nat → Prop} {W W' : World} (h : Mk D W W') (hD : ∀ k, D k → ∃ o : Obj, W.heap[k]? = some o ∧ o.isCells = true) : KeepsFrom B W W' :=
 ⟨h.size, fun k o _ hk ho => (h.block k (Array.getElem?_eq_some_iff.1 hk).1 (fun e => by
  obtain ⟨o', ho', hc⟩ := hD k e
  have : o = o' := by have := hk.symm.trans ho'; cases this; rfl
  subst this
  rw [ho] at hc; cases hc)).trans hk⟩
theorem own_cells {w : World} {N e c n : Nat} {v : Value} {xs : List Value} (h : w.ownsRow N e c v n xs) {j : Nat} (hj : v.ownBlock = some j) : ∃ o : Obj, w.heap[j]? = some o ∧ o.isCells = true := by
 rcases h.2 with ⟨rfl, _⟩ | ⟨g, cap, cur, rfl, _, hg0, _⟩
 ·cases hj
 ·cases hj; exact ⟨_, hg0, rfl⟩
theorem at_cells {w : World} {k : Nat} {v : Value} {vs : List Value} (h : At w k (v :: vs)) : ∃ o : Obj, w.heap[k]? = some o ∧ o.isCells = true := cells_of_cell (h.cell (j := 0) (v := v) rfl)
theorem bs59 (x : Int) (w : World) : (Instr.buildSlice 59 1 #[(0, .int .i64 x)]).run Try.prog w = .ok (.slice (some ⟨w.heap.size, 0, none⟩) 1 1) (w.alloc (.cells #[.int .i64 x] 2)) := by kernel_rfl
theorem bs60 (u : Value) (h : ∃ p n c, u = Value.slice p n c) (w : World) : (Instr.buildSlice 60 1 #[(0, u)]).run Try.prog w = .ok (.slice (some ⟨w.heap.size, 0, none⟩) 1 1) (w.alloc (.cells #[u] 29)) := by
 obtain ⟨p, n, c, rfl⟩ := h; kernel_rfl
theorem zs59 : (Try.prog.info? 59).map (·.size) = some 1 := by kernel_rfl
theorem zs60 : (Try.prog.info? 60).map (·.size) = some 1 := by kernel_rfl
section
variable {o : Oper} {n : Nat} {l : List (Nat × Value)} {w : World} {ops : Array Oper} {rest : List Oper} {Q : Exit → Act → World → Prop} {K : Act → World → Prop}
theorem wl_bs59 (x : Operand) (i : Int) (ho : o.op = .buildSlice 59 1 #[(0, x)]) (hx : evl n l x = .int .i64 i) (hg : wnt n l ops o = true)
  (hk : ∀ k w', w.heap.size = k → w'.heap.size = k + 1 → Mo w w' → At w' k [.int .i64 i] → WL Try.prog ops Q rest n (ext l o.dst (.slice (some ⟨k, 0, none⟩) 1 1)) w') : WL Try.prog ops Q (o :: rest) n l w :=
 ⟨l_step hg (o_val (.slice (some ⟨w.heap.size, 0, none⟩) 1 1) (w' := w.alloc (.cells #[.int .i64 i] 2)) (by
  have h := bs59 i w
  simp [execOp, ho, hx, h]) (hk _ _ rfl (by simp) ((Mo.refl _).alloc _ _) (At.new w #[.int .i64 i] 2)).out)⟩
theorem wo_bs60 (x : Operand) (u : Value) (h1 : ∃ p n c, u = Value.slice p n c) (ho : o.op = .buildSlice 60 1 #[(0, x)]) (hx : evl n l x = u)
  (hk : ∀ k w', w.heap.size = k → w'.heap.size = k + 1 → Mo w w' → At w' k [u] → K (fr n (ext l o.dst (.slice (some ⟨k, 0, none⟩) 1 1))) w') : WO Try.prog o n l w K Q :=
 ⟨o_val (.slice (some ⟨w.heap.size, 0, none⟩) 1 1) (w' := w.alloc (.cells #[u] 29)) (by
  have h := bs60 u h1 w
  simp [execOp, ho, hx, h]) (hk _ _ rfl (by simp) ((Mo.refl _).alloc _ _) (At.new w #[u] 29))⟩
end
theorem all_2 {n0 : Nat} {ks : List Nat} {w : World} {t u : Nat} {mt mu : Hd} {tr ur : T} {lk uk : Int} (h : G2 n0 ks w t mt tr lk u mu ur uk) : Calls Try.prog 21 #[pt t 0] w fun e w' => ∃ (kb : Nat) (p : Option Addr) (cap : Nat) (Z : List (Py × Value)), e = .returned (.func (.func 42) #[] #[pt kb 0]) ∧ At w' kb [.slice p Z.length cap] ∧ Z.map (·.1) = tr.ids ∧ RA w' p Z ∧ RV w' Z ∧ (∀ k, pb p k → w.heap.size ≤ k ∧ k < w'.heap.size) ∧ (∀ z ∈ Z, ∀ b, ob z.2 = some b → w.heap.size ≤ b ∧ b < w'.heap.size) ∧ w.heap.size ≤ kb ∧ Mo w w' := by
 obtain ⟨_, _, Dt, Du, h1, _⟩ := h
 exact all_n h1
end G
end Go.Proofs.Ythfemlhmnjfjiaa
/-
 AggtreeParts: the law's walk.
-/
namespace Go.Proofs.Ythfemlhmnjfjiaa
open Go.RowKit
namespace G
theorem neS (S : Sm) (x y : Operand) (w : World) : (do eqGuard .neq 42 x y (smv S) (smv S); binOp .neq 42 (smv S) (smv S)).run Try.prog w = .ok (.bool false) w := by
 have q := eq33s S.r S.f S.k S.d S.e S.tt S.so S.mn.b S.mn.n S.mn.s S.mx.b S.mx.n S.mx.s w
 have e : binOp .neq 42 (smv S) (smv S) = (do pure (.bool (!(← Op.equalIn 10000 42 (smv S) (smv S))))) := rfl
 rw [Sem.run_bind, guard_run x y gt33, e, Result.andThen_ok, Sem.run_bind, q]; rfl
end G
end Go.Proofs.Ythfemlhmnjfjiaa
/-
 AggtreeHistory: what its walk needs besides.
-/
namespace Go.Proofs.Ythfemlhmnjfjiaa
open Go.RowKit
namespace G
theorem own_mk {E : Nat → Prop} {w w' : World} {N n e c : Nat} {v : Value} {xs : List Value} (h : w.ownsRow N e c v n xs) (m : Mk E w w') (hE : ∀ b, v.ownBlock = some b → ¬ E b) : w'.ownsRow N e c v n xs := by
 have h0 := h
 refine ⟨h.1, ?_⟩
 rcases h.2 with ⟨rfl, h1⟩ | ⟨g, cap, cur, rfl, hb, hg, r⟩
 ·exact .inl ⟨rfl, h1⟩
 ·exact .inr ⟨g, cap, cur, rfl, hb, (m.block g (h0.lt g rfl).2 (hE g rfl)).trans hg, r⟩
theorem own_sl {w : World} {N n e : Nat} {v : Value} {xs : List Value} (h : w.ownsRow N e 1 v n xs) : ∃ p cap, v = .slice p n cap ∧ ∀ (j : Nat) (y : Value), xs[j]? = some y → ∃ g, p = some ⟨g, 0, none⟩ ∧ g < w.heap.size ∧ w.cell? ⟨g, j, none⟩ = some y := by
 have h0 := h
 have hl := h.1
 rcases h.2 with ⟨rfl, rfl⟩ | ⟨g, cap, cur, rfl, _⟩
 ·exact ⟨none, 0, rfl, fun j y e => by have := (List.getElem?_eq_some_iff.1 e).1; omega⟩
 ·refine ⟨some ⟨g, 0, none⟩, cap, rfl, fun j y e => ⟨g, rfl, (h0.lt g rfl).2, ?_⟩⟩
  have hj := (List.getElem?_eq_some_iff.1 e).1
  rw [h0.cellAt j (by omega)]; exact e
def KLs (v1 v2 : Value) (U : List Value) : List Nat := v1.ownBlock.toList ++ v2.ownBlock.toList ++ U.filterMap ob
section
variable {B k1 k2 : Nat} {L1 : List Int} {pre : List (Py × Value)} {W W' : World} {v1 v2 : Value} {U : List Value}
theorem HR.kl (h : HR B k1 k2 L1 pre W v1 v2 U) : ∀ k ∈ KLs v1 v2 U, B ≤ k ∧ k < W.heap.size := fun k hk => by
 unfold KLs at hk
 rcases List.mem_append.1 hk with hk | hk
 ·rcases List.mem_append.1 hk with hk | hk
  ·exact h.o1.lt k (by simpa using hk)
  ·exact h.o2.lt k (by simpa using hk)
 ·obtain ⟨u, hu, e⟩ := List.mem_filterMap.1 hk
  exact ⟨(h.ub u hu k e).1, (h.ub u hu k e).2.1⟩
theorem HR.kept {n0 : Nat} {ks : List Nat} (h : HR B k1 k2 L1 pre W v1 v2 U) (m : Mk (Wr n0 ks) W W') (hk : ∀ k, k = k1 ∨ k = k2 ∨ k ∈ KLs v1 v2 U → k ∈ ks) : HR B k1 k2 L1 pre W' v1 v2 U := by
 have key : ∀ k, k = k1 ∨ k = k2 ∨ k ∈ KLs v1 v2 U → ¬ Wr n0 ks k := fun k e q => q.2 (hk k e)
 have m1 : ∀ b, v1.ownBlock = some b → b ∈ KLs v1 v2 U := fun b e => by unfold KLs; rw [e]; simp
 have m2 : ∀ b, v2.ownBlock = some b → b ∈ KLs v1 v2 U := fun b e => by unfold KLs; rw [e]; simp
 have m3 : ∀ u ∈ U, ∀ b, ob u = some b → b ∈ KLs v1 v2 U := fun u hu b e => by unfold KLs; exact List.mem_append_right _ (List.mem_filterMap.2 ⟨u, hu, e⟩)
 exact ⟨m.at h.a1 (key _ (Or.inl rfl)), m.at h.a2 (key _ (Or.inr (Or.inl rfl))), own_mk h.o1 m (fun b e => key b (Or.inr (Or.inr (m1 b e)))), own_mk h.o2 m (fun b e => key b (Or.inr (Or.inr (m2 b e)))), fun i x u e1 e2 => (h.ur i x u e1 e2).kept m (fun b hb => key b (Or.inr (Or.inr (m3 u (List.mem_of_getElem? e2) b hb)))), h.us, fun u hu b hb => ⟨(h.ub u hu b hb).1, Nat.lt_of_lt_of_le (h.ub u hu b hb).2.1 m.size, (h.ub u hu b hb).2.2⟩, h.d12, h.k1B, h.k2B, h.k12⟩
theorem HR.st {ks : List Nat} {k : Nat} (h : HR B k1 k2 L1 pre W v1 v2 U) (s : St2 k W W') (hk : k ∉ ks) (hks : ∀ k, k = k1 ∨ k = k2 ∨ k ∈ KLs v1 v2 U → k ∈ ks) : HR B k1 k2 L1 pre W' v1 v2 U := by
 have key : ∀ j, j = k1 ∨ j = k2 ∨ j ∈ KLs v1 v2 U → ¬ j = k := fun j e q => hk (q ▸ hks j e)
 have m := Mk.st1 s
 have m1 : ∀ b, v1.ownBlock = some b → b ∈ KLs v1 v2 U := fun b e => by unfold KLs; rw [e]; simp
 have m2 : ∀ b, v2.ownBlock = some b → b ∈ KLs v1 v2 U := fun b e => by unfold KLs; rw [e]; simp
 have m3 : ∀ u ∈ U, ∀ b, ob u = some b → b ∈ KLs v1 v2 U := fun u hu b e => by unfold KLs; exact List.mem_append_right _ (List.mem_filterMap.2 ⟨u, hu, e⟩)
 exact ⟨m.at h.a1 (key _ (Or.inl rfl)), m.at h.a2 (key _ (Or.inr (Or.inl rfl))), own_mk h.o1 m (fun b e => key b (Or.inr (Or.inr (m1 b e)))), own_mk h.o2 m (fun b e => key b (Or.inr (Or.inr (m2 b e)))), fun i x u e1 e2 => (h.ur i x u e1 e2).kept m (fun b hb => key b (Or.inr (Or.inr (m3 u (List.mem_of_getElem? e2) b hb)))), h.us, fun u hu b hb => ⟨(h.ub u hu b hb).1, Nat.lt_of_lt_of_le (h.ub u hu b hb).2.1 m.size, (h.ub u hu b hb).2.2⟩, h.d12, h.k1B, h.k2B, h.k12⟩
end
def rk (y : Py) : Int × List V10 := (y.i, y.vs)
theorem col_rk {c : Nat} {s : Int} {A B : List Py} (h : A.map rk = B.map rk) : col c s A = col c s B := by
 have key : ∀ L : List Py, L.map (fun y => ofs (y.vs.getD c v0) s) = (L.map rk).map (fun z => ofs (z.2.getD c v0) s) := fun L => by rw [List.map_map]; rfl
 unfold col
 rw [key A, key B, h]
theorem prt_rk {c : Nat} {s a b : Int} {A B : List Py} (h : A.map rk = B.map rk) : prt c s a b A = prt c s a b B := by
 unfold prt
 exact col_rk (by rw [List.map_drop, List.map_take, h, List.map_drop, List.map_take])
theorem len_rk {A B : List Py} (h : A.map rk = B.map rk) : A.length = B.length := by have := congrArg List.length h; simpa using this
theorem is_rk {A B : List Py} (h : A.map rk = B.map rk) : A.map (·.i) = B.map (·.i) := by
 have key : ∀ L : List Py, L.map (·.i) = (L.map rk).map (·.1) := fun L => by rw [List.map_map]; rfl
 rw [key A, key B, h]
theorem nd_drop2 {L : List Py} {j : Nat} {y : Py} (hn : (L.map (·.i)).Nodup) (hy : L[j]? = some y) : y.i ∉ (L.drop (j + 1)).map (·.i) := fun hm => by
 have hj := (List.getElem?_eq_some_iff.1 hy).1
 have e : L.drop j = y :: L.drop (j + 1) := by
  rw [List.drop_eq_getElem_cons hj]
  have := (List.getElem?_eq_some_iff.1 hy).2
  rw [this]
 have h2 : ((L.drop j).map (·.i)).Nodup := by rw [List.map_drop]; exact hn.sublist (List.drop_sublist _ _)
 rw [e, List.map_cons] at h2
 exact (List.nodup_cons.1 h2).1 hm
theorem drop_rk {L : List Py} {j : Nat} {y z : Py} {A : List Py} (hy : L[j]? = some y) (hz : rk z = rk y) (hA : A.map rk = (L.drop (j + 1)).map rk) : (z :: A).map rk = (L.drop j).map rk := by
 have hj := (List.getElem?_eq_some_iff.1 hy).1
 rw [List.drop_eq_getElem_cons hj, List.map_cons, List.map_cons, hA, hz, (List.getElem?_eq_some_iff.1 hy).2]
theorem len59 (ρ : Operand → Value) (x : Operand) (p : Option Addr) (m c : Nat) (hx : ρ x = .slice p m c) (dst : Option Tmp) (type : TypeId) (pos : String) (after : Array Edge) (guard : Option (Nat × Bool)) (w : World) : (execOp ρ { dst, op := .call { callee := .builtin .len, args := #[x], argTypes := #[59] }, type, pos, after, guard }).run Try.prog w = .ok (.value (.int .i64 (m : Int))) w := by
 simp [go_sem, hx]
theorem ix59 (g j n c : Nat) (h : j < n) (w : World) : (Instr.indexAt 59 (.slice (some ⟨g, 0, none⟩) n c) (.int .i64 (j : Int))).run Try.prog w = .ok (pt g j) w := by
 have e : (Instr.indexAt 59 (.slice (some ⟨g, 0, none⟩) n c) (.int .i64 (j : Int))).run Try.prog w = .ok (.pointer (some ((⟨g, 0, none⟩ : Addr).add (j * 1)))) w := by simp [go_sem, h]
 rw [e, Addr.add_mid, Nat.mul_one, Nat.zero_add]
theorem ix60 (g j n c : Nat) (h : j < n) (w : World) : (Instr.indexAt 60 (.slice (some ⟨g, 0, none⟩) n c) (.int .i64 (j : Int))).run Try.prog w = .ok (pt g j) w := by
 have e : (Instr.indexAt 60 (.slice (some ⟨g, 0, none⟩) n c) (.int .i64 (j : Int))).run Try.prog w = .ok (.pointer (some ((⟨g, 0, none⟩ : Addr).add (j * 1)))) w := by simp [go_sem, h]
 rw [e, Addr.add_mid, Nat.mul_one, Nat.zero_add]
theorem ldi {w : World} {b o : Nat} {x : Int} (h : w.cell? ⟨b, o, none⟩ = some (.int .i64 x)) : (Instr.loadAt 2 (pt b o)).run Try.prog w = .ok (.int .i64 x) w := by
 simp [go_sem, h]
theorem lds {w : World} {b o : Nat} {u : Value} (h : w.cell? ⟨b, o, none⟩ = some u) : (Instr.loadAt 29 (pt b o)).run Try.prog w = .ok u w := by
 simp [go_sem, h]
theorem quo3 {n : Nat} (h : n ≤ 100000) (x y : Operand) (w : World) : (do eqGuard .quo 3 x y (.int .i64 (n : Int)) (.int .i64 3); binOp .quo 3 (.int .i64 (n : Int)) (.int .i64 3)).run Try.prog w = .ok (.int .i64 ((n / 3 : Nat) : Int)) w := by
 have e : (do eqGuard .quo 3 x y (.int .i64 (n : Int)) (.int .i64 3); binOp .quo 3 (.int .i64 (n : Int)) (.int .i64 3)).run Try.prog w = .ok (.int .i64 (IntKind.i64.wrap (Int.tdiv (n : Int) 3))) w := by kernel_rfl
 have h2 : IntKind.i64.wrap (Int.tdiv (n : Int) 3) = ((n / 3 : Nat) : Int) := by
  rw [Int.tdiv_eq_ediv_of_nonneg (by omega), IntKind.wrap_i64]; omega
 rw [e, h2]
end G
end Go.Proofs.Ythfemlhmnjfjiaa
/-
 All's iterator, with what it hands on new at each round.
-/
namespace Go.Proofs.Ythfemlhmnjfjiaa
open Go.RowKit
namespace G
namespace R
def SeqH {α : Type} (m : Nat) (P : Program) (g : Nat) (ra lb : Array Value) (encs : α → Array Value) (T : List α × α → World → Prop) (F : World → α → Prop) (Kp : World → World → Prop) (S Sp : List α → Prop) (N : Nat) (w : World) : Prop :=
 ∀ (l : Nat) (J Jx : List α → World → Prop) (W : World), Mo w W → AbF J → AbF Jx →
  (∀ pre x W0 W1, J pre W0 → Mo W0 W1 → T (pre, x) W1 → F W0 x → pre.length < N → YieldAt (Fw none) (m - 1) P l (encs x) W1 fun e W' =>
   (e = .returned (.bool true) ∧ J (pre ++ [x]) W' ∧ Kp W1 W') ∨ (e = .returned (.bool false) ∧ Jx (pre ++ [x]) W')) →
  J [] W →
  CallsIn (Fw none) m P g (ra ++ #[.func (.yield l) #[] #[]] ++ lb) W fun e W' => (∃ v, e = .returned v) ∧ ((∃ xs, S xs ∧ J xs W') ∨ (∃ pre, Sp pre ∧ Jx pre W'))
section
variable {m : Nat} {ds : List Deferred} {P : Program} {n : Nat} {l : List (Nat × Value)} {w : World} {Q : Exit → Act → World → Prop}
theorem w_rh {α : Type} {g : Operand} {ps : Array Tmp} {assign body : Code} (gf : Nat) (ra lb : Array Value) (hg : evl n l g = .func (.func gf) ra lb) (eg : ∀ args w, (callFunc gf args).run P w = .ok (.enter gf args) w)
  (encs : α → Array Value) (T : List α × α → World → Prop) (hT : OwnF w.heap.size T) (F : World → α → Prop) (Kp : World → World → Prop) (S Sp : List α → Prop) (N : Nat) (hseq : SeqH (m - 1) P gf ra lb encs T F Kp S Sp N w)
  (hKt : ∀ {A B C : World}, Kp A B → Kp B C → Kp A C) (hKb : ∀ (W : World) (l : Nat) (o o' : Obj), w.heap.size ≤ l → W.heap[l]? = some o → o.isCells = false → o'.isCells = false → Kp W (W.putObj l o')) (hps : ∀ x, (encs x).size = ps.size)
  (I : List α → World → Prop) (Ix : Code → List α → World → Prop) (hI : OwnF w.heap.size I) (hIx : ∀ c, OwnF w.heap.size (Ix c)) (h0 : I [] w) (la lx : α → List (Nat × Value))
  (hfr : ∀ x, ({ tmps := (ps.zip (encs x)).foldl (fun t (p, v) => t.setIfInBounds p v) (fr n l).tmps, defers := [] } : Act) = fr n (la x))
  (hassign : ∀ (lp : Nat) (x : α) (W : World) (K : Act → World → Prop), WX (Wd [] (Exit.then K (fun _ _ _ => False))) .normal n (lx x) W → RC (some lp) (m - 1 - 1) [] P assign (Exit.then K (fun _ _ _ => False)) n (la x) W)
  (hbody : ∀ (lp : Nat) (pre : List α) (x : α) (W : World), I pre W → T (pre, x) W → (∃ W0, I pre W0 ∧ F W0 x ∧ ∀ k v vs, At W0 k (v :: vs) → At W k (v :: vs)) → pre.length < N → RC (some lp) (m - 1 - 1) [] P body (ownPostG w.heap.size Kp I Ix (pre ++ [x]) W) n (lx x) W)
  (hdone : ∀ (D : Nat) (xs : List α) (W : World), w.heap.size ≤ D → S xs → I xs W → W.heap[D]? = some (.deferred (some [])) → WX (Wd ({ target := .collected D, args := #[] } :: ds) Q) .normal n l W)
  (hstop : ∀ (D : Nat) (c : Code) (pre : List α) (W : World), w.heap.size ≤ D → Sp pre → Ix c pre W → W.heap[D]? = some (.deferred (some [])) → RC none m ({ target := .collected D, args := #[] } :: ds) P c Q n l W) :
  RC none m ds P (Code.rangeFunc g ps assign body) Q n l w := by
 refine ⟨wpIn_rangeFunc ?_⟩
 intro fn hfn
 have hro : (Fw none).round = none := rfl
 rw [hro]
 have hg' : (wd (fr n l) ds).eval g = .func (.func gf) ra lb := (ev_wd g).trans hg
 have htm : (wd (fr n l) ds).tmps = (fr n l).tmps := rfl
 obtain ⟨rec, hrec⟩ : ∃ rec : LoopState → Option Code → Loop, rec = fun st pe => { state := st, pending := pe, fn, tmps := (fr n l).tmps, params := ps, assign, body, defers := w.heap.size } := ⟨_, rfl⟩
 obtain ⟨W1, hW1⟩ : ∃ W1, (w.alloc (.deferred (some []))).alloc (.loop (rec .ready none)) = W1 := ⟨_, rfl⟩
 have hm1 : Mo w W1 := by rw [← hW1]; exact (Mo.allocO rfl).trans (Mo.allocO rfl)
 have hL1 : W1.heap[w.heap.size + 1]? = some (.loop (rec .ready none)) := by
  rw [← hW1]; have := World.alloc_heap_new (w.alloc (.deferred (some []))) (.loop (rec .ready none)); rwa [World.size_alloc] at this
 have hK1 : W1.heap[w.heap.size]? = some (.deferred (some [])) := by
  rw [← hW1]; exact (Below.heap_alloc _ _ _ (by simp)).trans (World.alloc_heap_new w _)
 have hI1 : I [] W1 := hI.mo h0 hm1
 refine ⟨w.heap.size + 1, [{ target := .collected w.heap.size, args := #[] }], W1, { target := .fn (.func gf) lb, args := ra ++ #[.func (.yield (w.heap.size + 1)) #[] #[]] }, W1, gf,
  ra ++ #[.func (.yield (w.heap.size + 1)) #[] #[]] ++ lb, W1, ?_, ?_, ?_, ?_, (fun e => by cases e), ?_⟩
 ·rw [← hW1, hrec]; exact run_enterLoop_outer _ _ _ _ _
 ·simp only [resolve, hg']
  simp [go_sem]
 ·intro f' hf'; trivial
 ·simp [invoke, go_sem, eg]
 ·refine (hseq (w.heap.size + 1)
   (fun pre W => I pre W ∧ W.heap[w.heap.size + 1]? = some (.loop (rec .ready none)) ∧ W.heap[w.heap.size]? = some (.deferred (some [])))
   (fun pre W => ∃ c, Ix c pre W ∧ W.heap[w.heap.size + 1]? = some (.loop (rec .done (some c))) ∧ W.heap[w.heap.size]? = some (.deferred (some [])))
   W1 hm1
   (fun s A B hs mo => ⟨hI.mo hs.1 mo, (mo.1.block _ (Array.getElem?_eq_some_iff.1 hs.2.1).1).trans hs.2.1, (mo.1.block _ (Array.getElem?_eq_some_iff.1 hs.2.2).1).trans hs.2.2⟩)
   (fun s A B hs mo => by
    obtain ⟨c, hc, hl, hk⟩ := hs
    exact ⟨c, (hIx c).mo hc mo, (mo.1.block _ (Array.getElem?_eq_some_iff.1 hl).1).trans hl, (mo.1.block _ (Array.getElem?_eq_some_iff.1 hk).1).trans hk⟩)
   ?_ ⟨hI1, hL1, hK1⟩).mono ?_
  ·rintro pre x W0 W ⟨hi0, hl0, hk0⟩ hmo9 hTx hFx hlen
   have hi : I pre W := hI.mo hi0 hmo9
   have hl : W.heap[w.heap.size + 1]? = some (.loop (rec .ready none)) := (hmo9.1.block _ (Array.getElem?_eq_some_iff.1 hl0).1).trans hl0
   have hk : W.heap[w.heap.size]? = some (.deferred (some [])) := (hmo9.1.block _ (Array.getElem?_eq_some_iff.1 hk0).1).trans hk0
   have hlt : w.heap.size + 1 < W.heap.size := (Array.getElem?_eq_some_iff.1 hl).1
   have hy := run_yield (P := P) (args := encs x) hl (by rw [hrec]; exact hps x)
   rw [hrec] at hy
   have ha : ∀ K : Act → World → Prop, K (fr n (lx x)) W → assign.wpIn ((Fw none).inRound (w.heap.size + 1)) (m - 1 - 1) P (Exit.then K (fun _ _ _ => False)) { tmps := (ps.zip (encs x)).foldl (fun t (p, v) => t.setIfInBounds p v) (fr n l).tmps, defers := [] } W := fun K hK => by
    rw [hfr x]
    exact (hassign (w.heap.size + 1) x W K ⟨hK⟩).out
   refine ⟨fn, _, assign, body, hy, roundIn_of_wpIn hfn (ha _ ⟨_, run_beginRound hl (by rw [hrec]), ?_⟩)⟩
   have hl2 : (W.putObj (w.heap.size + 1) (.loop { rec .ready none with state := .busy })).heap[w.heap.size + 1]? = some (.loop { rec .ready none with state := .busy }) := World.putObj_heap_same hlt
   have hk2 : (W.putObj (w.heap.size + 1) (.loop { rec .ready none with state := .busy })).heap[w.heap.size]? = some (.deferred (some [])) := (World.putObj_heap_other (by omega)).trans hk
   have hw2 : Kp W (W.putObj (w.heap.size + 1) (.loop { rec .ready none with state := .busy })) := hKb _ _ _ _ (by omega) hl rfl rfl
   refine Go.wpIn_mono (hbody _ pre x _ (hI.putObj _ hi (by omega) hl rfl rfl) (hT.putObj (s := (pre, x)) _ hTx (by omega) hl rfl rfl) ⟨W0, hi0, hFx, fun k v vs hA => at_kd (hA.mo hmo9) (World.putObj_heap_other (fun e => by subst e; exact R.dk_ne hl rfl (hA.mo hmo9) rfl))⟩ hlen).out ?_
   have fin : ∀ (jump : Option Code) (W3 : World), KeepsFrom w.heap.size (W.putObj (w.heap.size + 1) (.loop { rec .ready none with state := .busy })) W3 →
     (Instr.endRound (w.heap.size + 1) jump).run P W3 = .ok (.bool jump.isNone) (W3.putObj (w.heap.size + 1) (.loop (rec (if jump.isNone then .ready else .done) jump))) ∧
     W3.heap[w.heap.size + 1]? = some (.loop { rec .ready none with state := .busy }) ∧
     (W3.putObj (w.heap.size + 1) (.loop (rec (if jump.isNone then .ready else .done) jump))).heap[w.heap.size + 1]? = some (.loop (rec (if jump.isNone then .ready else .done) jump)) ∧
     (W3.putObj (w.heap.size + 1) (.loop (rec (if jump.isNone then .ready else .done) jump))).heap[w.heap.size]? = some (.deferred (some [])) := fun jump W3 hk3 => by
    have hl3 := hk3.same _ _ (by omega) hl2 rfl
    have := run_endRound (P := P) jump hl3
    rw [hrec] at this ⊢
    exact ⟨this, by rw [hrec] at hl3; exact hl3, World.putObj_heap_same (Array.getElem?_eq_some_iff.1 hl3).1, (World.putObj_heap_other (by omega)).trans (hk3.same _ _ (Nat.le_refl _) hk2 rfl)⟩
   rintro e a3 W3 hp
   cases e with
   | normal =>
    obtain ⟨hk3, hkp3, hi3⟩ := hp
    obtain ⟨hr, hl3, hl4, hk4⟩ := fin none W3 hk3
    exact ⟨_, _, hr, .inl ⟨rfl, ⟨hI.putObj _ hi3 (by omega) hl3 rfl rfl, hl4, hk4⟩, hKt (hKt hw2 hkp3) (hKb _ _ _ _ (by omega) hl3 rfl rfl)⟩⟩
   | ret =>
    obtain ⟨hk3, hi3⟩ := hp
    obtain ⟨hr, hl3, hl4, hk4⟩ := fin (some .ret) W3 hk3
    exact ⟨_, _, hr, .inr ⟨rfl, .ret, (hIx _).putObj _ hi3 (by omega) hl3 rfl rfl, hl4, hk4⟩⟩
   | exit id =>
    obtain ⟨hk3, hi3⟩ := hp
    obtain ⟨hr, hl3, hl4, hk4⟩ := fin (some (.exit id)) W3 hk3
    exact ⟨_, _, hr, .inr ⟨rfl, .exit id, (hIx _).putObj _ hi3 (by omega) hl3 rfl rfl, hl4, hk4⟩⟩
   | goto t =>
    obtain ⟨hk3, hi3⟩ := hp
    obtain ⟨hr, hl3, hl4, hk4⟩ := fin (some (.goto t)) W3 hk3
    exact ⟨_, _, hr, .inr ⟨rfl, .goto t, (hIx _).putObj _ hi3 (by omega) hl3 rfl rfl, hl4, hk4⟩⟩
   | panic ch => exact hp.elim
   | outgrown => exact hp.elim
  ·rintro e W2 ⟨⟨v, rfl⟩, (⟨xs, hS, hi, hl, hk⟩ | ⟨pre, hSp, c, hi, hl, hk⟩)⟩
   ·exact ⟨none, _, by have := run_endLoop (P := P) hl (by rw [hrec]; simp); rw [hrec] at this; exact this, (hdone _ xs _ (Nat.le_refl _) hS (hI.putObj _ hi (by omega) hl rfl rfl) ((World.putObj_heap_other (by omega)).trans hk)).out⟩
   ·exact ⟨some c, _, by have := run_endLoop (P := P) hl (by rw [hrec]; simp); rw [hrec] at this; exact this, (hstop _ c pre _ (Nat.le_refl _) hSp ((hIx c).putObj _ hi (by omega) hl rfl rfl) ((World.putObj_heap_other (by omega)).trans hk)).out⟩
end
end R
def FZ (W : World) (x : Py × Value) : Prop := ∀ b, ob x.2 = some b → W.heap.size ≤ b
namespace R
theorem all1_seqh {m kb cap : Nat} {w : World} {p : Option Addr} {Z : List (Py × Value)} (hA : At w kb [.slice p Z.length cap]) (hRA : RA w p Z) (hRV : RV w Z) (hn : Z.length ≤ 100000) (hvs : ∀ z ∈ Z, z.1.vs.length ≤ 4096) :
  SeqH m Try.prog 42 #[] #[pt kb 0] (fun x : Py × Value => #[.int .i64 x.1.i, x.2]) (TZ w Z) FZ (fun a b => Kd (KZ p Z) a b ∧ a.heap.size ≤ b.heap.size) (fun xs => xs.map (·.1) = Z.map (·.1)) (fun pre => ∃ i : Nat, 0 < i ∧ i ≤ Z.length ∧ pre.map (·.1) = (Z.take i).map (·.1)) Z.length w := by
 intro lp J Jx W hW hJ hJx hY h0
 replace hRA := hRA.mo hW
 replace hRV := hRV.mo hW
 have Q1 := hA.mo hW
 have M : Mo W W := Mo.refl _
 refine w_enter 20 Try.func42 Try.ntmps42 rfl rfl ?_
 refine w_seq (w_reg ?_)
 refine wl_l 95 (.tmp 1) (pt kb 0) (.slice p Z.length cap) (run_one Q1 95 0 rfl Try.underlying95 rfl) ?_
 refine wl_val (.int .i64 ((Z.length : Nat) : Int)) (len95 _ _ _ _ _ (by exact rfl) _ _ _ _ _ _) rfl ?_
 refine wl_m (.const (.int .i64 (0))) (.int .i64 (0)) ?_
 refine w_nil (xn_then (w_block ?_))
 refine w_loop (fun k l wc => ∃ (i : Nat) (pre : List (Py × Value)), k + i = Z.length ∧ look l 0 = .func (.yield lp) #[] #[] ∧ look l 5 = .slice p Z.length cap ∧ look l 6 = .int .i64 ((Z.length : Nat) : Int) ∧ look l 7 = .int .i64 ((i : Nat) : Int) ∧ pre.length = i ∧ pre.map (·.1) = (Z.take i).map (·.1) ∧ J pre wc ∧ RA wc p Z ∧ RV wc Z ∧ w.heap.size ≤ wc.heap.size) Z.length ⟨0, [], by omega, rfl, rfl, rfl, rfl, rfl, rfl, h0, hRA, hRV, hW.size⟩ ?_
 clear h0 hRA hRV Q1 M
 rintro k l wc ⟨i, pre, hm, g0, g5, g6, g7, hpl, hpm, hJi, hRA, hRV, hWc⟩
 have M : Mo wc wc := Mo.refl _
 refine w_seq ?_
 cases hf0 : decide (i < Z.length) with
 | true =>
  have hf0p := of_decide_eq_true hf0
  refine w_reg ?_
  refine wl_bin (fun x y => do eqGuard .lss 3 (.tmp 7) (.tmp 6) x y; binOp .lss 3 x y) (.tmp 7) (.tmp 6) (.int .i64 ((i : Nat) : Int)) (.int .i64 ((Z.length : Nat) : Int)) (.bool true) (fun _ => rfl) g7 g6 (ltN hf0 _ _ _) rfl ?_
  refine w_nil (xn_then (w_seq (w_condT rfl (w_skip (xn_then (w_seq (w_block (w_seq (w_reg ?_)))))))))
  obtain ⟨z, hzi⟩ : ∃ z, Z[i]? = some z := ⟨Z[i]'(by omega), List.getElem?_eq_getElem _⟩
  obtain ⟨b, off, hpb, hbl, hrg⟩ := hRA _ z hzi
  have hone : z.2.oneCell' = true := by obtain ⟨_, _, e, _⟩ := hRV z (List.mem_of_getElem? hzi); rw [e]; rfl
  refine wl_bin (fun x y => Instr.indexAt 95 x y) (.tmp 5) (.tmp 7) (.slice p Z.length cap) (.int .i64 ((i : Nat) : Int)) (pt b (off + i * 2)) (fun _ => rfl) g5 g7 (by rw [hpb]; exact ix95 b off i _ _ (by omega) _) rfl ?_
  refine wl_l 83 (.tmp 9) (pt b (off + i * 2)) (.agg #[.int .i64 (z.1.i), z.2]) (ld83 hrg) ?_
  refine wl_alloc 83 #[.int .i64 0, .slice none 0 0] rfl (fun _ => by kernel_rfl) rfl ?_
  intro k1 w11 hk hz hq Q1
  have N_k1 : wc.heap.size ≤ k1 := by have := M.size; omega
  replace M := M.trans hq
  clear hk hz hq
  refine wl_st 83 (.tmp 4) (.tmp 10) k1 0 #[.int .i64 (z.1.i), z.2] _ [.int .i64 (z.1.i), z.2] Q1 rfl rfl rfl rfl rfl zs83 (oc83 hone) rfl rfl ?_
  intro w12 hS Qn
  replace Q1 := Qn
  clear Qn
  replace M := hS.mo _ N_k1 M
  clear hS
  refine w_nil (xn_then (w_seq ?_))
  have hzm := List.mem_of_getElem? hzi
  have hRz := (hRV z hzm).mo M
  obtain ⟨pv, cv, hzv, _⟩ := hRz
  replace hRz := (hRV z hzm).mo M
  have hvl := hvs z hzm
  have hsm : Smos [vq (.func (.yield lp) #[] #[]), vq (pt k1 0), vq (.int .i64 z.1.i), vq (pt k1 1), vq z.2, fun u w9 => Rw w9 10 u (z.1.vs.map V10.cells) ∧ (∀ b, ob u = some b → w12.heap.size ≤ b)] := smos_cons (smo_vq _) (smos_cons (smo_vq _) (smos_cons (smo_vq _) (smos_cons (smo_vq _) (smos_cons (smo_vq _) (smos_cons (fun u a b h m => ⟨h.1.mo m, h.2⟩) (smos_nil))))))
  have hgr : ∀ a b : World, Mo w12 a → Mo a b → Mo w12 b := fun _ _ h m => h.trans m
  refine w_ogr 6 (fun w9 => Mo w12 w9) [vq (.func (.yield lp) #[] #[]), vq (pt k1 0), vq (.int .i64 z.1.i), vq (pt k1 1), vq z.2, fun u w9 => Rw w9 10 u (z.1.vs.map V10.cells) ∧ (∀ b, ob u = some b → w12.heap.size ≤ b)] (by kernel_rfl) (by kernel_rfl) (by kernel_rfl) (by kernel_rfl) rfl (by kernel_rfl) ((Mo.refl _).drew) ?_ ?_
  ·refine ea_cons ?_ (ea_cons ?_ (ea_cons ?_ (ea_cons ?_ (ea_cons ?_ (ea_cons ?_ (ea_nil))))))
   ·exact oc_eq _ rfl hgr hsm (fun f wf hG hd K9 hK => go_run rfl (wo_mv (.tmp 0) (.func (.yield lp) #[] #[]) (fun _ => rfl) g0 (hK _ (Mo.refl _))))
   ·exact oc_eq _ rfl hgr hsm (fun f wf hG hd K9 hK => go_run rfl (wo_un (fun v => Instr.fieldAt 83 v 0) (.tmp 4) (pt k1 0) (pt k1 0) (fun _ => rfl) rfl (by kernel_rfl) (hK _ (Mo.refl _))))
   ·exact oc_eq _ rfl hgr hsm (fun f wf hG hd K9 hK => have Q9 := Q1.mo hG; go_run rfl (wo_load 2 (.tmp 12) (pt k1 0) (.int .i64 z.1.i) rfl (hd 1 rfl) (run_one Q9 2 0 rfl Try.underlying2 rfl) (hK _ (Mo.refl _))))
   ·exact oc_eq _ rfl hgr hsm (fun f wf hG hd K9 hK => go_run rfl (wo_un (fun v => Instr.fieldAt 83 v 1) (.tmp 4) (pt k1 0) (pt k1 1) (fun _ => rfl) rfl (by kernel_rfl) (hK _ (Mo.refl _))))
   ·exact oc_eq _ rfl hgr hsm (fun f wf hG hd K9 hK => have Q9 := Q1.mo hG; go_run rfl (wo_load 29 (.tmp 14) (pt k1 1) (z.2) rfl (hd 3 rfl) (run_one Q9 29 1 rfl Try.underlying29 rfl) (hK _ (Mo.refl _))))
   ·refine ⟨fun f wf hG hd K9 hK => ?_⟩
    have hRf := hRz.mo hG
    rw [hzv] at hRf
    refine go_run rfl (wo_callx 22 [(.tmp 15)] _ [.slice pv (z.1.vs.map V10.cells).length cv] rfl (li1 ((hd 4 rfl).trans hzv)) (fun _ _ => by kernel_rfl) (clv_n (fun y hy => by obtain ⟨q, _, rfl⟩ := List.mem_map.1 hy; rfl) hRf.rows (by rw [List.length_map]; omega)) (fun e9 w9 ⟨p9, c9, he, h1, h2, hq⟩ => ⟨_, he, hK _ w9 (hG.trans hq) ⟨h1, fun b hb => Nat.le_trans hG.size (h2 b hb)⟩ (fun j u _ hr => hsm j u _ _ hr hq)⟩))
  intro f w13 hq hR9
  have r0 := hR9 0 rfl
  have r2 := hR9 2 rfl
  obtain ⟨hU1, hU2⟩ := hR9 5 rfl
  clear hsm hgr
  obtain ⟨u, hu⟩ : ∃ u, u = f 5 := ⟨_, rfl⟩
  rw [← hu] at hU1 hU2
  have hMM := M.trans hq
  refine rl_yield (.tmp 11) [(.tmp 13), (.tmp 16)] _ [.int .i64 z.1.i, u] lp rfl r0 (li2 r2 hu.symm) rfl (hY pre (z.1, u) wc _ hJi hMM ⟨⟨z, by rw [hpl]; exact hzi, rfl⟩, hU1, fun b hb => Nat.le_trans (Nat.le_trans hWc M.size) (hU2 b hb)⟩ (fun b hb => Nat.le_trans M.size (hU2 b hb)) (by omega)) ?_
  rintro e w14 (⟨rfl, hJ2, hk2⟩ | ⟨rfl, hJx2⟩)
  ·refine ⟨_, rfl, ?_⟩
   replace hRA := (hRA.mo hMM).kd (fun j hj => hk2.1 j (Or.inl hj))
   replace hRV : RV w14 Z := fun y hy => ((hRV y hy).mo hMM).kd (fun c hc => hk2.1 c (Or.inr ⟨y, hy, hc⟩))
   have hWs : w.heap.size ≤ w14.heap.size := Nat.le_trans (Nat.le_trans hWc hMM.size) hk2.2
   refine rl_o rfl (wo_un (fun v => Op.unary .not v) (.tmp 17) (.bool true) (.bool false) (fun _ => rfl) rfl (by kernel_rfl) ⟨_, rfl, ?_⟩)
   refine rl_nil ?_
   refine xn_then (w_condF rfl (w_skip (xn_blk (xn_then (w_reg ?_)))))
   refine wl_bin (fun x y => do eqGuard .add 3 (.tmp 7) (.const (.int .i64 (1))) x y; binOp .add 3 x y) (.tmp 7) (.const (.int .i64 (1))) (.int .i64 ((i : Nat) : Int)) (.int .i64 (1)) (.int .i64 ((i + 1 : Nat) : Int)) (fun _ => rfl) g7 rfl (add1r (by omega) _ _ _) rfl ?_
   refine wl_m (.tmp 19) (.int .i64 ((i + 1 : Nat) : Int)) ?_
   refine w_nil ?_
   have hpm2 : (pre ++ [(z.1, u)]).map (·.1) = (Z.take (i + 1)).map (·.1) := by rw [List.take_add_one, hzi, List.map_append, List.map_append, hpm]; rfl
   exact xn_loop (k - 1) (by omega) ⟨i + 1, pre ++ [(z.1, u)], by omega, g0, g5, g6, rfl, by rw [List.length_append, hpl]; rfl, hpm2, hJ2, hRA, hRV, hWs⟩
  ·refine ⟨_, rfl, ?_⟩
   refine rl_o rfl (wo_un (fun v => Op.unary .not v) (.tmp 17) (.bool false) (.bool true) (fun _ => rfl) rfl (by kernel_rfl) ⟨_, rfl, ?_⟩)
   refine rl_nil ?_
   refine xn_then (w_condT rfl (w_ret (xr_blk (xr_then (xr_then (xr_blk ?_))))))
   exact w_ret0 rfl ⟨⟨_, rfl⟩, .inr ⟨_, ⟨i + 1, by omega, by omega, by rw [List.take_add_one, hzi, List.map_append, List.map_append, hpm]; rfl⟩, hJx2⟩⟩
 | false =>
  have hf0p := of_decide_eq_false hf0
  refine w_reg ?_
  refine wl_bin (fun x y => do eqGuard .lss 3 (.tmp 7) (.tmp 6) x y; binOp .lss 3 x y) (.tmp 7) (.tmp 6) (.int .i64 ((i : Nat) : Int)) (.int .i64 ((Z.length : Nat) : Int)) (.bool false) (fun _ => rfl) g7 g6 (ltN hf0 _ _ _) rfl ?_
  refine w_nil (xn_then (w_seq (w_condF rfl (w_exit (xx_then (xx_then (xx_blk ?_)))))))
  exact w_end0 rfl ⟨⟨_, rfl⟩, .inl ⟨_, by show List.map _ pre = _; rw [hpm, show i = Z.length by omega, List.take_length], hJi⟩⟩
end R
end G
end Go.Proofs.Ythfemlhmnjfjiaa
