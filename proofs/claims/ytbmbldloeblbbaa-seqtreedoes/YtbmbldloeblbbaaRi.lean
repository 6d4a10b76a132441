/-
  An iterator over a slice of ids; told.
-/
import Derived.Test.YtbmbldloeblbbaaRf
import Derived.Test.YtbmbldloeblbbaaBc
namespace Go.Proofs.Ytbmbldloeblbbaa
open Go.RowKit
theorem sz4 : (Try.prog.info? 4).map (·.size) = some 1 := by kernel_rfl
theorem sz26 : (Try.prog.info? 26).map (·.size) = some 1 := by kernel_rfl
/-- Ids lie there, one behind the other. -/
def SI (w : World) (p : Option Addr) (L : List Int) : Prop := ∀ i x, L[i]? = some x → ∃ b off, p = some ⟨b, off, none⟩ ∧ b < w.heap.size ∧ w.cell? ⟨b, off + i, none⟩ = some (.int .i64 x)
theorem SI.mo {w w' : World} {p : Option Addr} {L : List Int} (h : SI w p L) (m : Mo w w') : SI w' p L := fun i x e => by
  obtain ⟨b, off, h1, h2, h3⟩ := h i x e
  exact ⟨b, off, h1, Nat.lt_of_lt_of_le h2 m.size, (m.cell b _ h2).trans h3⟩
/-- The block that a slice's cells lie in. -/
def pb (p : Option Addr) (k : Nat) : Prop := ∃ off, p = some ⟨k, off, none⟩
/-- These blocks lie as they lay. -/
def Kd (D : Nat → Prop) (W W' : World) : Prop := ∀ k, D k → W'.heap[k]? = W.heap[k]?
theorem Kd.tr {D : Nat → Prop} {A B C : World} (h : Kd D A B) (k : Kd D B C) : Kd D A C := fun j hj => (k j hj).trans (h j hj)
theorem SI.kd {w w' : World} {p : Option Addr} {L : List Int} (h : SI w p L) (k : Kd (pb p) w w') : SI w' p L := fun i x e => by
  obtain ⟨b, off, h1, h2, h3⟩ := h i x e
  have hb := k b ⟨off, h1⟩
  refine ⟨b, off, h1, ?_, (World.cell?_of_block hb).trans h3⟩
  rcases Nat.lt_or_ge b w'.heap.size with q | q
  · exact q
  · rw [Array.getElem?_eq_none q] at hb
    rw [Array.getElem?_eq_getElem h2] at hb; cases hb
theorem len26 (ρ : Operand → Value) (x : Operand) (p : Option Addr) (m c : Nat) (hx : ρ x = .slice p m c) (dst : Option Tmp) (type : TypeId) (pos : String) (after : Array Edge) (guard : Option (Nat × Bool)) (w : World) : (execOp ρ { dst, op := .call { callee := .builtin .len, args := #[x], argTypes := #[26] }, type, pos, after, guard }).run Try.prog w = .ok (.value (.int .i64 (m : Int))) w := by
  simp [go_sem, hx]
theorem ix26 (b off i n c : Nat) (h : i < n) (w : World) : (Instr.indexAt 26 (.slice (some ⟨b, off, none⟩) n c) (.int .i64 (i : Int))).run Try.prog w = .ok (pt b (off + i)) w := by
  have e : (Instr.indexAt 26 (.slice (some ⟨b, off, none⟩) n c) (.int .i64 (i : Int))).run Try.prog w = .ok (.pointer (some ((⟨b, off, none⟩ : Addr).add (i * 1)))) w := by simp [go_sem, h]
  rw [e, Addr.add_mid, Nat.mul_one]
theorem ld2 {w : World} {b o : Nat} {x : Int} (h : w.cell? ⟨b, o, none⟩ = some (.int .i64 x)) : (Instr.loadAt 2 (pt b o)).run Try.prog w = .ok (.int .i64 x) w := by
  simp [go_sem, h]
theorem At.grown {W W' : World} {row : Option Nat} {k : Nat} {v : Value} {vs : List Value} (h : At W k (v :: vs)) (hg : W.grownBy W' row) (hr : ∀ r, row = some r → ∃ o : Obj, W.heap[r]? = some o ∧ o.isCells = false) : At W' k (v :: vs) := by
  have h0 := h.cell (j := 0) (v := v) rfl
  obtain ⟨o, ho, hc⟩ := cells_of_cell h0
  have hb : W'.heap[k]? = W.heap[k]? := grownBy_keeps_cells hg hr ho hc
  refine ⟨fun j u hu => (World.cell?_of_block (a := ⟨k, 0 + j, none⟩) hb).trans (h.1 j u hu), fun o => (World.frozen?_of_block (a := ⟨k, o, none⟩) hb).trans (h.2.1 o), Nat.lt_of_lt_of_le h.2.2 hg.size⟩
namespace R
theorem frps1 {n : Nat} {l : List (Nat × Value)} (p : Tmp) (u : Value) : ({ tmps := ((#[p] : Array Tmp).zip #[u]).foldl (fun t (p, v) => t.setIfInBounds p v) (fr n l).tmps, defers := [] } : Act) = fr n (ext l (some p) u) := by
  rw [← fr_put]; simp [Act.put]; rfl
theorem frps2 {n : Nat} {l : List (Nat × Value)} (p q : Tmp) (u v : Value) : ({ tmps := ((#[p, q] : Array Tmp).zip #[u, v]).foldl (fun t (p, v) => t.setIfInBounds p v) (fr n l).tmps, defers := [] } : Act) = fr n (ext (ext l (some p) u) (some q) v) := by
  rw [← fr_put, ← fr_put]; simp [Act.put]; rfl
theorem Mo.putO {a W : World} (h : Mo a W) {D : Nat} {o o' : Obj} (hD : a.heap.size ≤ D) (hl : W.heap[D]? = some o) (ho : o.isCells = false) (ho' : o'.isCells = false) : Mo a (W.putObj D o') :=
  ⟨⟨h.1.os, h.1.tape, h.1.output, by have := h.1.size; simpa using this, fun k hk => (World.putObj_heap_other (by omega)).trans (h.1.block k hk)⟩, fun x => (frozen_put hl ho ho' x).trans (h.2 x)⟩
theorem own_moF {β : Type} {B : Nat} {a : World} (ha : a.heap.size ≤ B) : OwnF B (fun (_ : β) W => Mo a W) := fun _ W W' row hs hg hf hr =>
  ⟨⟨hg.os.trans hs.1.os, hg.tape.trans hs.1.tape, hg.output.trans hs.1.output, Nat.le_trans hs.1.size hg.size, fun k hk => (hg.block k (Nat.lt_of_lt_of_le hk hs.1.size) (fun e => by have := (hr k e.symm).1; omega)).trans (hs.1.block k hk)⟩, fun x => (hf x).trans (hs.2 x)⟩
theorem OwnF.and {β : Type} {B : Nat} {I J : β → World → Prop} (h : OwnF B I) (k : OwnF B J) : OwnF B (fun s W => I s W ∧ J s W) := fun s W W' row hs hg hf hr => ⟨h s W W' row hs.1 hg hf hr, k s W W' row hs.2 hg hf hr⟩
theorem OwnF.pure {β : Type} {B : Nat} {p : β → Prop} : OwnF B (fun s _ => p s) := fun _ _ _ _ hs _ _ _ => hs
theorem OwnF.at {β : Type} {B k : Nat} {f : β → Value} {g : β → List Value} : OwnF B (fun s W => At W k (f s :: g s)) := fun _ _ _ _ hs hg _ hr => hs.grown hg (fun r e => (hr r e).2)
theorem keeps_mk {B : Nat} {D : Nat → Prop} {W W' : World} (h : Mk D W W') (hD : ∀ k, D k → ∃ v, W.cell? ⟨k, 0, none⟩ = some v) : KeepsFrom B W W' :=
  ⟨h.size, fun k o _ hk ho => (h.block k (Array.getElem?_eq_some_iff.1 hk).1 (fun e => by
    obtain ⟨v, hv⟩ := hD k e
    obtain ⟨o', ho', hc⟩ := cells_of_cell hv
    have : o = o' := by have := hk.symm.trans ho'; cases this; rfl
    subst this
    rw [ho] at hc; cases hc)).trans hk⟩
section
variable {m : Nat} {ds : List Deferred} {P : Program} {n : Nat} {l : List (Nat × Value)} {w : World}
theorem w_ret0 {fn : Func} {X : Ending → World → Prop} (hf : fn.results = #[]) (hR : X (.returned (.tuple #[])) w) : WX (Wd [] (bodyPostM (Fw none) m P fn X)) .ret n l w := ⟨⟨.tuple #[], by simp [results, hf], hR⟩⟩
theorem w_end0 {fn : Func} {X : Ending → World → Prop} (hf : fn.results = #[]) (hR : X (.returned (.tuple #[])) w) : WX (Wd [] (bodyPostM (Fw none) m P fn X)) .normal n l w := ⟨⟨.tuple #[], by simp [results, hf], hR⟩⟩
theorem w_ret1m {fn : Func} {X : Ending → World → Prop} (D : Nat) (x : ResultVar) (v : Value) (hf : fn.results = #[x]) (hK : w.heap[D]? = some (.deferred (some []))) (h : resv n l P (w.putObj D (.deferred none)) v x) (hR : X (.returned v) (w.putObj D (.deferred none))) : WX (Wd [{ target := .collected D, args := #[] }] (bodyPostM (Fw none) m P fn X)) .ret n l w := ⟨by
  obtain ⟨_, v', h1, h2⟩ := c_ret1 (R := X) x v hf h hR
  exact ⟨by simp, .inl ⟨D, _, rfl, run_takeDeferred hK, v', h1, h2⟩⟩⟩
end
end R
theorem zi_take {L : List Int} {i : Nat} {x : Int} (h : L[i]? = some x) : (L.take (i + 1)).zipIdx = (L.take i).zipIdx ++ [(x, i)] := by
  have hi := (List.getElem?_eq_some_iff.1 h).1
  rw [List.take_add_one, h]
  simp only [Option.toList_some, List.zipIdx_append, List.length_take, Nat.min_eq_left (Nat.le_of_lt hi)]
  simp
theorem zi_pre {L : List Int} {i : Nat} : (L.take i).zipIdx <+: L.zipIdx := by
  conv => rhs; rw [← List.take_append_drop i L, List.zipIdx_append]
  exact ⟨_, rfl⟩
namespace R
/-- All's iterator: the places and ids of a slice, where a round keeps the slice's cells. -/
theorem all1_seq {m kb cap : Nat} {w : World} {p : Option Addr} {L : List Int} (hA : At w kb [.slice p L.length cap]) (hSI : SI w p L) (hn : L.length ≤ 9223372036854775806) :
    SeqF m Try.prog 32 #[] #[pt kb 0] (fun x : Int × Nat => #[.int .i64 (x.2 : Int), .int .i64 x.1]) (Kd (pb p)) (fun xs => xs = L.zipIdx) (fun pre => ∃ i : Nat, 0 < i ∧ i ≤ L.length ∧ pre = (L.take i).zipIdx) L.length w := by
  intro lp J Jx W hW hJ hJx hY h0
  replace hSI := hSI.mo hW
  have Q1 := hA.mo hW
  refine w_enter 18 Try.func32 Try.ntmps32 rfl rfl ?_
  refine w_seq ?_
  refine w_reg ?_
  refine wl_load 26 (.tmp 1) (pt kb 0) (.slice p L.length cap) rfl rfl (run_one Q1 26 0 rfl Try.underlying26 rfl) rfl ?_
  refine wl_val (.int .i64 ((L.length : Int))) (len26 _ _ _ _ _ (by exact rfl) _ _ _ _ _ _) rfl ?_
  refine wl_mv (.const (.int .i64 (0))) (.int .i64 (0)) (fun _ => rfl) rfl rfl ?_
  refine w_nil ?_
  refine xn_then ?_
  refine w_block ?_
  refine w_loop (fun k l wc => ∃ i : Nat, k + i = L.length ∧ look l 0 = .func (.yield lp) #[] #[] ∧ look l 5 = .slice p L.length cap ∧ look l 6 = .int .i64 (L.length : Int) ∧ look l 7 = .int .i64 (i : Int) ∧ J (L.take i).zipIdx wc ∧ SI wc p L) L.length ⟨0, by omega, rfl, rfl, rfl, rfl, h0, hSI⟩ ?_
  clear h0 hSI Q1
  rintro k l wc ⟨i, hm, g0, g5, g6, g7, hJi, hSI⟩
  refine w_seq ?_
  cases hf0 : decide (i < L.length) with
  | true =>
    have hf0p := of_decide_eq_true hf0
    refine w_reg ?_
    refine wl_bin (fun x y => do eqGuard .lss 3 (.tmp 7) (.tmp 6) x y; binOp .lss 3 x y) (.tmp 7) (.tmp 6) (.int .i64 ((i : Nat) : Int)) (.int .i64 ((L.length : Int))) (.bool true) (fun _ => rfl) g7 g6 (ltN hf0 _ _ _) rfl ?_
    refine w_nil ?_
    refine xn_then ?_
    refine w_seq ?_
    refine w_condT rfl ?_
    refine w_skip ?_
    refine xn_then ?_
    refine w_seq ?_
    refine w_block ?_
    refine w_seq ?_
    refine w_reg ?_
    refine wl_mv (.tmp 7) (.int .i64 ((i : Nat) : Int)) (fun _ => rfl) g7 rfl ?_
    obtain ⟨x, hxi⟩ : ∃ x, L[i]? = some x := ⟨L[i]'(by omega), List.getElem?_eq_getElem _⟩
    obtain ⟨b, off, hpb, hbl, hcx⟩ := hSI _ x hxi
    refine wl_bin (fun x y => Instr.indexAt 26 x y) (.tmp 5) (.tmp 7) (.slice p L.length cap) (.int .i64 ((i : Nat) : Int)) (pt b (off + i)) (fun _ => rfl) g5 g7 (by rw [hpb]; exact ix26 b off i _ _ (by omega) _) rfl ?_
    refine wl_load 2 (.tmp 10) (pt b (off + i)) (.int .i64 (x)) rfl rfl (ld2 hcx) rfl ?_
    refine wl_mv (.tmp 9) (.int .i64 ((i : Nat) : Int)) (fun _ => rfl) rfl rfl ?_
    refine wl_mv (.tmp 11) (.int .i64 (x)) (fun _ => rfl) rfl rfl ?_
    refine w_nil ?_
    refine xn_then ?_
    refine w_seq ?_
    refine w_regL ?_
    refine rl_o rfl (wo_mv (.tmp 0) (.func (.yield lp) #[] #[]) (fun _ => rfl) g0 ⟨_, rfl, ?_⟩)
    refine rl_o rfl (wo_mv (.tmp 3) (.int .i64 ((i : Nat) : Int)) (fun _ => rfl) rfl ⟨_, rfl, ?_⟩)
    refine rl_o rfl (wo_mv (.tmp 4) (.int .i64 (x)) (fun _ => rfl) rfl ⟨_, rfl, ?_⟩)
    refine rl_yield (.tmp 12) [(.tmp 13), (.tmp 14)] _ [.int .i64 ((i : Nat) : Int), .int .i64 (x)] lp rfl rfl rfl rfl (hY (L.take i).zipIdx (x, i) _ hJi (by simp; omega)) ?_
    rintro e w11 (⟨rfl, hJ2, hk2⟩ | ⟨rfl, hJx2⟩)
    · refine ⟨_, rfl, ?_⟩
      rw [← zi_take hxi] at hJ2
      replace hSI := hSI.kd hk2
      refine rl_o rfl (wo_un (fun v => Op.unary .not v) (.tmp 15) (.bool true) (.bool false) (fun _ => rfl) rfl (by kernel_rfl) ⟨_, rfl, ?_⟩)
      refine rl_nil ?_
      refine xn_then ?_
      refine w_condF rfl ?_
      refine w_skip ?_
      refine xn_blk ?_
      refine xn_then ?_
      refine w_reg ?_
      refine wl_bin (fun x y => do eqGuard .add 3 (.tmp 7) (.const (.int .i64 (1))) x y; binOp .add 3 x y) (.tmp 7) (.const (.int .i64 (1))) (.int .i64 ((i : Nat) : Int)) (.int .i64 (1)) (.int .i64 ((i + 1 : Nat) : Int)) (fun _ => rfl) g7 rfl (add1r (by omega) _ _ _) rfl ?_
      refine wl_mv (.tmp 17) (.int .i64 ((i + 1 : Nat) : Int)) (fun _ => rfl) rfl rfl ?_
      refine w_nil ?_
      exact xn_loop (k - 1) (by omega) ⟨i + 1, by omega, g0, g5, g6, rfl, hJ2, hSI⟩
    · refine ⟨_, rfl, ?_⟩
      rw [← zi_take hxi] at hJx2
      refine rl_o rfl (wo_un (fun v => Op.unary .not v) (.tmp 15) (.bool false) (.bool true) (fun _ => rfl) rfl (by kernel_rfl) ⟨_, rfl, ?_⟩)
      refine rl_nil ?_
      refine xn_then ?_
      refine w_condT rfl ?_
      refine w_ret ?_
      refine xr_blk ?_
      refine xr_then ?_
      refine xr_then ?_
      refine xr_blk ?_
      exact w_ret0 rfl ⟨⟨_, rfl⟩, .inr ⟨_, ⟨i + 1, by omega, by omega, rfl⟩, hJx2⟩⟩
  | false =>
    have hf0p := of_decide_eq_false hf0
    refine w_reg ?_
    refine wl_bin (fun x y => do eqGuard .lss 3 (.tmp 7) (.tmp 6) x y; binOp .lss 3 x y) (.tmp 7) (.tmp 6) (.int .i64 ((i : Nat) : Int)) (.int .i64 ((L.length : Int))) (.bool false) (fun _ => rfl) g7 g6 (ltN hf0 _ _ _) rfl ?_
    refine w_nil ?_
    refine xn_then ?_
    refine w_seq ?_
    refine w_condF rfl ?_
    refine w_exit ?_
    refine xx_then ?_
    refine xx_then ?_
    refine xx_blk ?_
    exact w_end0 rfl ⟨⟨_, rfl⟩, .inl ⟨_, by rw [show i = L.length by omega, List.take_length], hJi⟩⟩
theorem told_no {Lw : List Int} {pre : List (Int × Nat)} {x : Int} {i : Nat} (h : Lw.length ≤ pre.length ∨ i ≠ pre.length ∨ Lw[pre.length]? ≠ some x) : ∀ j, pre ++ [(x, i)] ≠ (Lw.take j).zipIdx := by
  intro j e
  have hl := congrArg List.length e
  simp at hl
  have hg := congrArg (fun z => z[pre.length]?) e
  simp only [List.getElem?_append_right (Nat.le_refl _), Nat.sub_self, List.getElem?_cons_zero, List.getElem?_zipIdx] at hg
  rw [List.getElem?_take_of_lt (by omega)] at hg
  cases hc : Lw[pre.length]? with
  | none => rw [hc] at hg; cases hg
  | some y =>
    rw [hc] at hg
    simp at hg
    rcases h with h | h | h
    · omega
    · exact h hg.2
    · exact h (by rw [hc, hg.1])
theorem told_yes {L Lw : List Int} (h : L.zipIdx = (Lw.take L.zipIdx.length).zipIdx) : L = Lw.take L.length := by
  have := congrArg (List.map Prod.fst) h
  simpa using this
theorem SI.grown {W W' : World} {row : Option Nat} {p : Option Addr} {L : List Int} (h : SI W p L) (hg : W.grownBy W' row) (hr : ∀ r, row = some r → ∃ o : Obj, W.heap[r]? = some o ∧ o.isCells = false) : SI W' p L := fun i x e => by
  obtain ⟨b, off, h1, h2, h3⟩ := h i x e
  exact ⟨b, off, h1, Nat.lt_of_lt_of_le h2 hg.size, cell_kept h3 hg hr⟩
theorem OwnF.si {β : Type} {B : Nat} {p : Option Addr} {L : List Int} : OwnF B (fun (_ : β) W => SI W p L) := fun _ _ _ _ hs hg _ hr => SI.grown hs hg (fun r e => (hr r e).2)
theorem SI.st {w w' : World} {p : Option Addr} {L : List Int} {k : Nat} (h : SI w p L) (s : St2 k w w') (hk : ∀ j, pb p j → j ≠ k) : SI w' p L := fun i x e => by
  obtain ⟨b, off, h1, h2, h3⟩ := h i x e
  exact ⟨b, off, h1, by rw [s.size]; exact h2, (World.cell?_of_block (s.block b (hk b ⟨off, h1⟩))).trans h3⟩
theorem dk_st {w w' : World} {D k : Nat} {o : Obj} (h : w.heap[D]? = some o) (s : St2 k w w') (hk : D ≠ k) : w'.heap[D]? = some o := (s.block D hk).trans h
theorem dk_mo {w w' : World} {D : Nat} {o : Obj} (h : w.heap[D]? = some o) (m : Mo w w') : w'.heap[D]? = some o := (m.1.block D (Array.getElem?_eq_some_iff.1 h).1).trans h
theorem dk_ne {w : World} {D k : Nat} {o : Obj} {v : Value} {vs : List Value} (h : w.heap[D]? = some o) (ho : o.isCells = false) (hA : At w k (v :: vs)) : D ≠ k := fun e => by
  subst e
  obtain ⟨o', ho', hc⟩ := cells_of_cell (hA.cell (j := 0) (v := v) rfl)
  have : o = o' := by have := h.symm.trans ho'; cases this; rfl
  subst this; rw [ho] at hc; cases hc
theorem told_n {kb cap capw : Nat} {w : World} {p pw : Option Addr} {L Lw : List Int} (hA : At w kb [.slice p L.length cap]) (hSI : SI w p L) (hpk : ∀ k, pb p k → k < w.heap.size) (hSW : SI w pw Lw) (hpw : ∀ k, pb pw k → k < w.heap.size) (hn : L.length ≤ 9223372036854775806) :
    Calls Try.prog 16 #[.func (.func 32) #[] #[pt kb 0], .slice pw Lw.length capw] w fun e w' => e = .returned (.bool (decide (L = Lw))) ∧ Mo w w' := by
  refine calls_of (m := 9) (w_enter 34 Try.func16 Try.ntmps16 rfl rfl ?_)
  have M : Mo w w := Mo.refl _
  refine w_seq ?_
  refine w_reg ?_
  refine wl_box 26 (.tmp 1) (.slice pw Lw.length capw) (#[.slice pw Lw.length capw]) rfl rfl (fun _ => by kernel_rfl) rfl ?_
  intro k1 w1 hk hz hq Q1
  have N_k1 : w.heap.size ≤ k1 := by have := M.size; omega
  replace M := M.trans hq
  clear hk hz hq
  refine wl_alloc 4 #[.bool false] rfl (fun _ => by kernel_rfl) rfl ?_
  intro k2 w2 hk hz hq Q2
  have ne_k1_k2 : k1 ≠ k2 := by have := Q1.lt; omega
  have N_k2 : w.heap.size ≤ k2 := by have := M.size; omega
  replace Q1 := Q1.mo hq
  replace M := M.trans hq
  clear hk hz hq
  refine w_nil ?_
  refine xn_then ?_
  refine w_seq ?_
  refine w_reg ?_
  refine wl_alloc 3 #[.int .i64 0] rfl (fun _ => by kernel_rfl) rfl ?_
  intro k3 w3 hk hz hq Q3
  have ne_k1_k3 : k1 ≠ k3 := by have := Q1.lt; omega
  have ne_k2_k3 : k2 ≠ k3 := by have := Q2.lt; omega
  have N_k3 : w.heap.size ≤ k3 := by have := M.size; omega
  replace Q1 := Q1.mo hq
  replace Q2 := Q2.mo hq
  replace M := M.trans hq
  clear hk hz hq
  refine wl_st1x 3 (.tmp 5) (.const (.int .i64 (0))) k3 0 (.int .i64 (0)) [.int .i64 0] [.int .i64 (0)] Q3 rfl rfl rfl rfl rfl sz3 rfl rfl rfl rfl ?_
  intro w4 hT Qn
  replace Q3 := Qn
  clear Qn
  replace Q1 := hT.other _ _ ne_k1_k3 Q1
  replace Q2 := hT.other _ _ ne_k2_k3 Q2
  replace M := (Mk.refl (fun j => j = k3) _ |>.st hT rfl).mo M (fun _ e => e ▸ N_k3)
  clear hT
  refine w_nil ?_
  refine xn_then ?_
  refine w_seq ?_
  refine w_seq ?_
  refine w_reg ?_
  refine wl_mv (.tmp 0) (.func (.func 32) #[] #[pt kb 0]) (fun _ => rfl) rfl rfl ?_
  refine w_nil ?_
  refine xn_then ?_
  refine w_block ?_
  have hNR : w.heap.size ≤ w4.heap.size := M.size
  have hk3R : k1 < w4.heap.size ∧ k2 < w4.heap.size ∧ k3 < w4.heap.size := ⟨Q1.lt, Q2.lt, Q3.lt⟩
  refine w_rf 32 #[] #[pt kb 0] rfl (fun _ _ => by kernel_rfl) (fun x : Int × Nat => #[.int .i64 (x.2 : Int), .int .i64 x.1]) (Kd (pb p)) (fun xs => xs = L.zipIdx) (fun pre => ∃ i : Nat, 0 < i ∧ i ≤ L.length ∧ pre = (L.take i).zipIdx) L.length (all1_seq (hA.mo M) (hSI.mo M) hn) Kd.tr (fun W l o o' hl ho _ _ k hk => World.putObj_heap_other (by have := hpk k hk; omega)) (fun _ => rfl) (fun pre W => pre = (Lw.take pre.length).zipIdx ∧ pre.length ≤ Lw.length ∧ At W k1 [.slice pw Lw.length capw] ∧ At W k2 [.bool false] ∧ At W k3 [.int .i64 (pre.length : Int)] ∧ SI W pw Lw ∧ Mo w W) (fun c pre W => c = .ret ∧ (∀ j, pre ≠ (Lw.take j).zipIdx) ∧ At W k2 [.bool false] ∧ Mo w W) ?hI ?hIx ⟨rfl, Nat.zero_le _, Q1, Q2, Q3, hSW.mo M, M⟩ _ ?lx (fun x => frps2 9 10 _ _) ?assign ?body ?done ?stop
  case hI => exact OwnF.pure.and (OwnF.pure.and ((OwnF.at (f := fun _ => _) (g := fun _ => [])).and ((OwnF.at (f := fun _ => _) (g := fun _ => [])).and ((OwnF.at (f := fun pre => .int .i64 ((pre : List (Int × Nat)).length : Int)) (g := fun _ => [])).and (OwnF.si.and (own_moF hNR))))))
  case hIx => exact fun c => OwnF.pure.and (OwnF.pure.and ((OwnF.at (f := fun _ => _) (g := fun _ => [])).and (own_moF hNR)))
  case assign =>
    intro lp x W K hK
    refine w_seq ?_
    refine w_reg ?_
    refine wl_mv (.tmp 9) (.int .i64 ((x.2 : Int))) (fun _ => rfl) rfl rfl ?_
    refine w_nil ?_
    refine xn_then ?_
    refine w_reg ?_
    refine wl_mv (.tmp 10) (.int .i64 (x.1)) (fun _ => rfl) rfl rfl ?_
    refine w_nil ?_
    exact hK
  case body =>
    rintro lp pre ⟨x, i⟩ W ⟨hpre, hpl, Q1, Q2, Q3, hSW, M⟩ hlen
    have X : Mk (fun j => j = k2 ∨ j = k3) W W := Mk.refl _ _
    have Q20 := Q2
    have Q30 := Q3
    have hWs := M.size
    refine w_block ?_
    refine w_seq ?_
    refine w_seq ?_
    cases hf0 : decide ((Lw.length : Int) ≤ (pre.length : Int)) with
    | true =>
      have hf0p := of_decide_eq_true hf0
      refine w_reg ?_
      refine wl_load 3 (.tmp 5) (pt k3 0) (.int .i64 (pre.length : Int)) rfl rfl (run_one Q3 3 0 rfl Try.underlying3 rfl) rfl ?_
      refine wl_load 26 (.tmp 3) (pt k1 0) (.slice pw Lw.length capw) rfl rfl (run_one Q1 26 0 rfl Try.underlying26 rfl) rfl ?_
      refine wl_val (.int .i64 ((Lw.length : Int))) (len26 _ _ _ _ _ (by exact rfl) _ _ _ _ _ _) rfl ?_
      refine wl_bin (fun x y => do eqGuard .geq 3 (.tmp 11) (.tmp 13) x y; binOp .geq 3 x y) (.tmp 11) (.tmp 13) (.int .i64 (pre.length : Int)) (.int .i64 ((Lw.length : Int))) (.bool true) (fun _ => rfl) rfl rfl (geI hf0 _ _ _) rfl ?_
      refine wl_mv (.tmp 14) (.bool true) (fun _ => rfl) rfl rfl ?_
      refine wl_skip rfl ?_
      refine wl_skip rfl ?_
      refine wl_skip rfl ?_
      refine wl_pick (.tmp 15) (.const (.bool true)) (.tmp 18) true (.bool true) (fun _ => rfl) rfl rfl rfl ?_
      refine wl_mv (.tmp 19) (.bool true) (fun _ => rfl) rfl rfl ?_
      refine wl_skip rfl ?_
      refine wl_skip rfl ?_
      refine wl_skip rfl ?_
      refine wl_skip rfl ?_
      refine wl_skip rfl ?_
      refine wl_skip rfl ?_
      refine wl_pick (.tmp 20) (.const (.bool true)) (.tmp 26) true (.bool true) (fun _ => rfl) rfl rfl rfl ?_
      refine w_nil ?_
      refine xn_then ?_
      refine w_condT rfl ?_
      refine w_seq ?_
      refine w_reg ?_
      refine wl_st1x 4 (.tmp 4) (.const (.bool false)) k2 0 (.bool false) [.bool false] [.bool false] Q2 rfl rfl rfl rfl rfl sz4 rfl rfl rfl rfl ?_
      intro w21 hT Qn
      replace Q2 := Qn
      clear Qn
      replace Q1 := hT.other _ _ ne_k1_k2 Q1
      replace Q3 := hT.other _ _ ne_k2_k3.symm Q3
      replace hSW := SI.st hSW hT (fun j hj => by have := hpw j hj; omega)
      replace X := X.st hT (by simp)
      clear hT
      refine w_nil ?_
      refine xn_then ?_
      refine w_ret ?_
      refine xr_then ?_
      refine xr_blk ?_
      exact WX.mk ⟨(keeps_mk X (fun k hk => by rcases hk with rfl | rfl; exact ⟨_, Q20.cell (j := 0) rfl⟩; exact ⟨_, Q30.cell (j := 0) rfl⟩)), rfl, told_no (Or.inl (by have := hf0p; omega)), Q2, (X.mo M (fun k hk => by rcases hk with rfl | rfl; exact N_k2; exact N_k3))⟩
    | false =>
      have hf0p := of_decide_eq_false hf0
      cases hf1 : decide ((i : Int) = (pre.length : Int)) with
      | true =>
        have hf1p := of_decide_eq_true hf1
        cases hf2 : decide (x = Lw[pre.length]?.getD 0) with
        | true =>
          have hf2p := of_decide_eq_true hf2
          refine w_reg ?_
          refine wl_load 3 (.tmp 5) (pt k3 0) (.int .i64 (pre.length : Int)) rfl rfl (run_one Q3 3 0 rfl Try.underlying3 rfl) rfl ?_
          refine wl_load 26 (.tmp 3) (pt k1 0) (.slice pw Lw.length capw) rfl rfl (run_one Q1 26 0 rfl Try.underlying26 rfl) rfl ?_
          refine wl_val (.int .i64 ((Lw.length : Int))) (len26 _ _ _ _ _ (by exact rfl) _ _ _ _ _ _) rfl ?_
          refine wl_bin (fun x y => do eqGuard .geq 3 (.tmp 11) (.tmp 13) x y; binOp .geq 3 x y) (.tmp 11) (.tmp 13) (.int .i64 (pre.length : Int)) (.int .i64 ((Lw.length : Int))) (.bool false) (fun _ => rfl) rfl rfl (geI hf0 _ _ _) rfl ?_
          refine wl_mv (.tmp 14) (.bool false) (fun _ => rfl) rfl rfl ?_
          refine wl_mv (.tmp 6) (.int .i64 ((i : Int))) (fun _ => rfl) rfl rfl ?_
          refine wl_load 3 (.tmp 5) (pt k3 0) (.int .i64 (pre.length : Int)) rfl rfl (run_one Q3 3 0 rfl Try.underlying3 rfl) rfl ?_
          refine wl_bin (fun x y => do eqGuard .neq 3 (.tmp 16) (.tmp 17) x y; binOp .neq 3 x y) (.tmp 16) (.tmp 17) (.int .i64 ((i : Int))) (.int .i64 (pre.length : Int)) (.bool false) (fun _ => rfl) rfl rfl (neI hf1 _ _ _) rfl ?_
          refine wl_pick (.tmp 15) (.const (.bool true)) (.tmp 18) false (.bool false) (fun _ => rfl) rfl rfl rfl ?_
          refine wl_mv (.tmp 19) (.bool false) (fun _ => rfl) rfl rfl ?_
          refine wl_mv (.tmp 7) (.int .i64 (x)) (fun _ => rfl) rfl rfl ?_
          refine wl_load 26 (.tmp 3) (pt k1 0) (.slice pw Lw.length capw) rfl rfl (run_one Q1 26 0 rfl Try.underlying26 rfl) rfl ?_
          refine wl_load 3 (.tmp 5) (pt k3 0) (.int .i64 (pre.length : Int)) rfl rfl (run_one Q3 3 0 rfl Try.underlying3 rfl) rfl ?_
          have hyi : Lw[pre.length]? = some (Lw[pre.length]?.getD 0) := by rw [List.getElem?_eq_getElem (by omega)]; rfl
          obtain ⟨b, off, hpb, hbl, hcx⟩ := hSW _ _ hyi
          refine wl_bin (fun x y => Instr.indexAt 26 x y) (.tmp 22) (.tmp 23) (.slice pw Lw.length capw) (.int .i64 (pre.length : Int)) (pt b (off + pre.length)) (fun _ => rfl) rfl rfl (by rw [hpb]; exact ix26 b off pre.length _ _ (by omega) _) rfl ?_
          refine wl_load 2 (.tmp 24) (pt b (off + pre.length)) (.int .i64 (Lw[pre.length]?.getD 0)) rfl rfl (ld2 hcx) rfl ?_
          refine wl_bin (fun x y => do eqGuard .neq 2 (.tmp 21) (.tmp 25) x y; binOp .neq 2 x y) (.tmp 21) (.tmp 25) (.int .i64 (x)) (.int .i64 (Lw[pre.length]?.getD 0)) (.bool false) (fun _ => rfl) rfl rfl (neL hf2 _ _ _) rfl ?_
          refine wl_pick (.tmp 20) (.const (.bool true)) (.tmp 26) false (.bool false) (fun _ => rfl) rfl rfl rfl ?_
          refine w_nil ?_
          refine xn_then ?_
          refine w_condF rfl ?_
          refine w_skip ?_
          refine xn_then ?_
          refine w_reg ?_
          refine wl_load 3 (.tmp 5) (pt k3 0) (.int .i64 (pre.length : Int)) rfl rfl (run_one Q3 3 0 rfl Try.underlying3 rfl) rfl ?_
          refine wl_bin (fun x y => do eqGuard .add 3 (.tmp 28) (.const (.int .i64 (1))) x y; binOp .add 3 x y) (.tmp 28) (.const (.int .i64 (1))) (.int .i64 (pre.length : Int)) (.int .i64 (1)) (.int .i64 ((pre.length + 1 : Nat) : Int)) (fun _ => rfl) rfl rfl (add1r (by omega) _ _ _) rfl ?_
          refine wl_st1x 3 (.tmp 5) (.tmp 29) k3 0 (.int .i64 ((pre.length + 1 : Nat) : Int)) [.int .i64 (pre.length : Int)] [.int .i64 ((pre.length + 1 : Nat) : Int)] Q3 rfl rfl rfl rfl rfl sz3 rfl rfl rfl rfl ?_
          intro w21 hT Qn
          replace Q3 := Qn
          clear Qn
          replace Q1 := hT.other _ _ ne_k1_k3 Q1
          replace Q2 := hT.other _ _ ne_k2_k3 Q2
          replace hSW := SI.st hSW hT (fun j hj => by have := hpw j hj; omega)
          replace X := X.st hT (by simp)
          clear hT
          refine w_nil ?_
          refine xn_blk ?_
          have hi9 : i = pre.length := by have := hf1p; omega
          have hx9 := hf2p
          rw [← hx9] at hyi
          have hz := zi_take hyi
          rw [← hpre, ← hi9] at hz
          have hl9 : (pre ++ [(x, i)]).length = pre.length + 1 := by simp
          exact WX.mk ⟨(keeps_mk X (fun k hk => by rcases hk with rfl | rfl; exact ⟨_, Q20.cell (j := 0) rfl⟩; exact ⟨_, Q30.cell (j := 0) rfl⟩)), (fun k hk => X.block k (by have := hpk k hk; omega) (fun q => by have := hpk k hk; rcases q with rfl | rfl; omega; omega)), by rw [hl9, ← hi9]; exact hz.symm, by rw [hl9]; omega, Q1, Q2, by rw [hl9]; exact Q3, hSW, (X.mo M (fun k hk => by rcases hk with rfl | rfl; exact N_k2; exact N_k3))⟩
        | false =>
          have hf2p := of_decide_eq_false hf2
          refine w_reg ?_
          refine wl_load 3 (.tmp 5) (pt k3 0) (.int .i64 (pre.length : Int)) rfl rfl (run_one Q3 3 0 rfl Try.underlying3 rfl) rfl ?_
          refine wl_load 26 (.tmp 3) (pt k1 0) (.slice pw Lw.length capw) rfl rfl (run_one Q1 26 0 rfl Try.underlying26 rfl) rfl ?_
          refine wl_val (.int .i64 ((Lw.length : Int))) (len26 _ _ _ _ _ (by exact rfl) _ _ _ _ _ _) rfl ?_
          refine wl_bin (fun x y => do eqGuard .geq 3 (.tmp 11) (.tmp 13) x y; binOp .geq 3 x y) (.tmp 11) (.tmp 13) (.int .i64 (pre.length : Int)) (.int .i64 ((Lw.length : Int))) (.bool false) (fun _ => rfl) rfl rfl (geI hf0 _ _ _) rfl ?_
          refine wl_mv (.tmp 14) (.bool false) (fun _ => rfl) rfl rfl ?_
          refine wl_mv (.tmp 6) (.int .i64 ((i : Int))) (fun _ => rfl) rfl rfl ?_
          refine wl_load 3 (.tmp 5) (pt k3 0) (.int .i64 (pre.length : Int)) rfl rfl (run_one Q3 3 0 rfl Try.underlying3 rfl) rfl ?_
          refine wl_bin (fun x y => do eqGuard .neq 3 (.tmp 16) (.tmp 17) x y; binOp .neq 3 x y) (.tmp 16) (.tmp 17) (.int .i64 ((i : Int))) (.int .i64 (pre.length : Int)) (.bool false) (fun _ => rfl) rfl rfl (neI hf1 _ _ _) rfl ?_
          refine wl_pick (.tmp 15) (.const (.bool true)) (.tmp 18) false (.bool false) (fun _ => rfl) rfl rfl rfl ?_
          refine wl_mv (.tmp 19) (.bool false) (fun _ => rfl) rfl rfl ?_
          refine wl_mv (.tmp 7) (.int .i64 (x)) (fun _ => rfl) rfl rfl ?_
          refine wl_load 26 (.tmp 3) (pt k1 0) (.slice pw Lw.length capw) rfl rfl (run_one Q1 26 0 rfl Try.underlying26 rfl) rfl ?_
          refine wl_load 3 (.tmp 5) (pt k3 0) (.int .i64 (pre.length : Int)) rfl rfl (run_one Q3 3 0 rfl Try.underlying3 rfl) rfl ?_
          have hyi : Lw[pre.length]? = some (Lw[pre.length]?.getD 0) := by rw [List.getElem?_eq_getElem (by omega)]; rfl
          obtain ⟨b, off, hpb, hbl, hcx⟩ := hSW _ _ hyi
          refine wl_bin (fun x y => Instr.indexAt 26 x y) (.tmp 22) (.tmp 23) (.slice pw Lw.length capw) (.int .i64 (pre.length : Int)) (pt b (off + pre.length)) (fun _ => rfl) rfl rfl (by rw [hpb]; exact ix26 b off pre.length _ _ (by omega) _) rfl ?_
          refine wl_load 2 (.tmp 24) (pt b (off + pre.length)) (.int .i64 (Lw[pre.length]?.getD 0)) rfl rfl (ld2 hcx) rfl ?_
          refine wl_bin (fun x y => do eqGuard .neq 2 (.tmp 21) (.tmp 25) x y; binOp .neq 2 x y) (.tmp 21) (.tmp 25) (.int .i64 (x)) (.int .i64 (Lw[pre.length]?.getD 0)) (.bool true) (fun _ => rfl) rfl rfl (neL hf2 _ _ _) rfl ?_
          refine wl_pick (.tmp 20) (.const (.bool true)) (.tmp 26) false (.bool true) (fun _ => rfl) rfl rfl rfl ?_
          refine w_nil ?_
          refine xn_then ?_
          refine w_condT rfl ?_
          refine w_seq ?_
          refine w_reg ?_
          refine wl_st1x 4 (.tmp 4) (.const (.bool false)) k2 0 (.bool false) [.bool false] [.bool false] Q2 rfl rfl rfl rfl rfl sz4 rfl rfl rfl rfl ?_
          intro w21 hT Qn
          replace Q2 := Qn
          clear Qn
          replace Q1 := hT.other _ _ ne_k1_k2 Q1
          replace Q3 := hT.other _ _ ne_k2_k3.symm Q3
          replace hSW := SI.st hSW hT (fun j hj => by have := hpw j hj; omega)
          replace X := X.st hT (by simp)
          clear hT
          refine w_nil ?_
          refine xn_then ?_
          refine w_ret ?_
          refine xr_then ?_
          refine xr_blk ?_
          exact WX.mk ⟨(keeps_mk X (fun k hk => by rcases hk with rfl | rfl; exact ⟨_, Q20.cell (j := 0) rfl⟩; exact ⟨_, Q30.cell (j := 0) rfl⟩)), rfl, told_no (Or.inr (Or.inr (fun e => hf2p (by rw [e]; rfl)))), Q2, (X.mo M (fun k hk => by rcases hk with rfl | rfl; exact N_k2; exact N_k3))⟩
      | false =>
        have hf1p := of_decide_eq_false hf1
        refine w_reg ?_
        refine wl_load 3 (.tmp 5) (pt k3 0) (.int .i64 (pre.length : Int)) rfl rfl (run_one Q3 3 0 rfl Try.underlying3 rfl) rfl ?_
        refine wl_load 26 (.tmp 3) (pt k1 0) (.slice pw Lw.length capw) rfl rfl (run_one Q1 26 0 rfl Try.underlying26 rfl) rfl ?_
        refine wl_val (.int .i64 ((Lw.length : Int))) (len26 _ _ _ _ _ (by exact rfl) _ _ _ _ _ _) rfl ?_
        refine wl_bin (fun x y => do eqGuard .geq 3 (.tmp 11) (.tmp 13) x y; binOp .geq 3 x y) (.tmp 11) (.tmp 13) (.int .i64 (pre.length : Int)) (.int .i64 ((Lw.length : Int))) (.bool false) (fun _ => rfl) rfl rfl (geI hf0 _ _ _) rfl ?_
        refine wl_mv (.tmp 14) (.bool false) (fun _ => rfl) rfl rfl ?_
        refine wl_mv (.tmp 6) (.int .i64 ((i : Int))) (fun _ => rfl) rfl rfl ?_
        refine wl_load 3 (.tmp 5) (pt k3 0) (.int .i64 (pre.length : Int)) rfl rfl (run_one Q3 3 0 rfl Try.underlying3 rfl) rfl ?_
        refine wl_bin (fun x y => do eqGuard .neq 3 (.tmp 16) (.tmp 17) x y; binOp .neq 3 x y) (.tmp 16) (.tmp 17) (.int .i64 ((i : Int))) (.int .i64 (pre.length : Int)) (.bool true) (fun _ => rfl) rfl rfl (neI hf1 _ _ _) rfl ?_
        refine wl_pick (.tmp 15) (.const (.bool true)) (.tmp 18) false (.bool true) (fun _ => rfl) rfl rfl rfl ?_
        refine wl_mv (.tmp 19) (.bool true) (fun _ => rfl) rfl rfl ?_
        refine wl_skip rfl ?_
        refine wl_skip rfl ?_
        refine wl_skip rfl ?_
        refine wl_skip rfl ?_
        refine wl_skip rfl ?_
        refine wl_skip rfl ?_
        refine wl_pick (.tmp 20) (.const (.bool true)) (.tmp 26) true (.bool true) (fun _ => rfl) rfl rfl rfl ?_
        refine w_nil ?_
        refine xn_then ?_
        refine w_condT rfl ?_
        refine w_seq ?_
        refine w_reg ?_
        refine wl_st1x 4 (.tmp 4) (.const (.bool false)) k2 0 (.bool false) [.bool false] [.bool false] Q2 rfl rfl rfl rfl rfl sz4 rfl rfl rfl rfl ?_
        intro w21 hT Qn
        replace Q2 := Qn
        clear Qn
        replace Q1 := hT.other _ _ ne_k1_k2 Q1
        replace Q3 := hT.other _ _ ne_k2_k3.symm Q3
        replace hSW := SI.st hSW hT (fun j hj => by have := hpw j hj; omega)
        replace X := X.st hT (by simp)
        clear hT
        refine w_nil ?_
        refine xn_then ?_
        refine w_ret ?_
        refine xr_then ?_
        refine xr_blk ?_
        exact WX.mk ⟨(keeps_mk X (fun k hk => by rcases hk with rfl | rfl; exact ⟨_, Q20.cell (j := 0) rfl⟩; exact ⟨_, Q30.cell (j := 0) rfl⟩)), rfl, told_no (Or.inr (Or.inl (by have := hf1p; omega))), Q2, (X.mo M (fun k hk => by rcases hk with rfl | rfl; exact N_k2; exact N_k3))⟩
  case done =>
    rintro D xs W hD rfl ⟨hpre, hpl, Q1, Q2, Q3, _, M⟩ hK
    replace hD := Nat.le_trans hNR hD
    have ne_D : D ≠ k2 := dk_ne hK rfl Q2
    refine xn_blk ?_
    refine xn_then ?_
    refine w_seq ?_
    cases hf10 : decide ((L.zipIdx.length : Int) = (Lw.length : Int)) with
    | true =>
      have hf10p := of_decide_eq_true hf10
      refine w_reg ?_
      refine wl_load 3 (.tmp 5) (pt k3 0) (.int .i64 (L.zipIdx.length : Int)) rfl rfl (run_one Q3 3 0 rfl Try.underlying3 rfl) rfl ?_
      refine wl_load 26 (.tmp 3) (pt k1 0) (.slice pw Lw.length capw) rfl rfl (run_one Q1 26 0 rfl Try.underlying26 rfl) rfl ?_
      refine wl_val (.int .i64 ((Lw.length : Int))) (len26 _ _ _ _ _ (by exact rfl) _ _ _ _ _ _) rfl ?_
      refine wl_bin (fun x y => do eqGuard .eql 3 (.tmp 30) (.tmp 32) x y; binOp .eql 3 x y) (.tmp 30) (.tmp 32) (.int .i64 (L.zipIdx.length : Int)) (.int .i64 ((Lw.length : Int))) (.bool true) (fun _ => rfl) rfl rfl (eqI hf10 _ _ _) rfl ?_
      refine wl_st1x 4 (.tmp 4) (.tmp 33) k2 0 (.bool true) [.bool false] [.bool true] Q2 rfl rfl rfl rfl rfl sz4 rfl rfl rfl rfl ?_
      intro w41 hT Qn
      replace Q2 := Qn
      clear Qn
      replace Q1 := hT.other _ _ ne_k1_k2 Q1
      replace Q3 := hT.other _ _ ne_k2_k3.symm Q3
      replace hK := dk_st hK hT ne_D
      replace M := (Mk.refl (fun j => j = k2) _ |>.st hT rfl).mo M (fun _ e => e ▸ N_k2)
      clear hT
      refine w_nil ?_
      refine xn_then ?_
      refine w_ret ?_
      have h9 := told_yes hpre
      have hl9 : L.zipIdx.length = L.length := by simp
      have e9 : L = Lw := by rw [show L.length = Lw.length by have := hf10p; omega, List.take_length] at h9; exact h9
      have QZ := Q2.grown (grownBy_putObj' _ D (.deferred none)) (fun r e => by cases e; exact ⟨_, hK, rfl⟩)
      exact w_ret1m D _ (.bool true) rfl hK ⟨k2, rfl, run_one QZ 4 0 rfl Try.underlying4 rfl⟩ ⟨by rw [decide_eq_true e9], Mo.putO M hD hK rfl rfl⟩
    | false =>
      have hf10p := of_decide_eq_false hf10
      refine w_reg ?_
      refine wl_load 3 (.tmp 5) (pt k3 0) (.int .i64 (L.zipIdx.length : Int)) rfl rfl (run_one Q3 3 0 rfl Try.underlying3 rfl) rfl ?_
      refine wl_load 26 (.tmp 3) (pt k1 0) (.slice pw Lw.length capw) rfl rfl (run_one Q1 26 0 rfl Try.underlying26 rfl) rfl ?_
      refine wl_val (.int .i64 ((Lw.length : Int))) (len26 _ _ _ _ _ (by exact rfl) _ _ _ _ _ _) rfl ?_
      refine wl_bin (fun x y => do eqGuard .eql 3 (.tmp 30) (.tmp 32) x y; binOp .eql 3 x y) (.tmp 30) (.tmp 32) (.int .i64 (L.zipIdx.length : Int)) (.int .i64 ((Lw.length : Int))) (.bool false) (fun _ => rfl) rfl rfl (eqI hf10 _ _ _) rfl ?_
      refine wl_st1x 4 (.tmp 4) (.tmp 33) k2 0 (.bool false) [.bool false] [.bool false] Q2 rfl rfl rfl rfl rfl sz4 rfl rfl rfl rfl ?_
      intro w41 hT Qn
      replace Q2 := Qn
      clear Qn
      replace Q1 := hT.other _ _ ne_k1_k2 Q1
      replace Q3 := hT.other _ _ ne_k2_k3.symm Q3
      replace hK := dk_st hK hT ne_D
      replace M := (Mk.refl (fun j => j = k2) _ |>.st hT rfl).mo M (fun _ e => e ▸ N_k2)
      clear hT
      refine w_nil ?_
      refine xn_then ?_
      refine w_ret ?_
      have h9 := told_yes hpre
      have hl9 : L.zipIdx.length = L.length := by simp
      have e9 : L ≠ Lw := fun e => by have := hf10p; rw [e] at this hl9; omega
      have QZ := Q2.grown (grownBy_putObj' _ D (.deferred none)) (fun r e => by cases e; exact ⟨_, hK, rfl⟩)
      exact w_ret1m D _ (.bool false) rfl hK ⟨k2, rfl, run_one QZ 4 0 rfl Try.underlying4 rfl⟩ ⟨by rw [decide_eq_false e9], Mo.putO M hD hK rfl rfl⟩
  case stop =>
    rintro D c pre W hD ⟨i, hi0, hi1, rfl⟩ ⟨rfl, hne, Q2, M⟩ hK
    replace hD := Nat.le_trans hNR hD
    refine w_ret ?_
    refine xr_blk ?_
    refine xr_then ?_
    have QZ := Q2.grown (grownBy_putObj' _ D (.deferred none)) (fun r e => by cases e; exact ⟨_, hK, rfl⟩)
    exact w_ret1m D _ (.bool false) rfl hK ⟨k2, rfl, run_one QZ 4 0 rfl Try.underlying4 rfl⟩ ⟨by rw [decide_eq_false (fun e => hne i (by rw [e]))], Mo.putO M hD hK rfl rfl⟩
end R
end Go.Proofs.Ytbmbldloeblbbaa
