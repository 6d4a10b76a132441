/-
  A part of the proof.
-/
import Derived.Test.YthfemlhmnjfjiaaC9
import Derived.Test.YthfemlhmnjfjiaaC5
import Derived.Test.YthfemlhmnjfjiaaRows
import Derived.ProofKit
import Derived.OpenShut
import Derived.Carry
import Derived.ChangeMaps5
import Derived.ReadAgain
import Derived.WideKeyArgs
import Derived.SizedLaws
import Derived.Deep.Slices
import Derived.Deep.Strs
/-
  All's iterator; All.
-/
namespace Go.Proofs.Ythfemlhmnjfjiaa
open Go.RowKit
namespace G
theorem oc83 {x : Int} {u : Value} (h : u.oneCell' = true) : ((#[.int .i64 x, u] : Array Value).toList.all (·.oneCell')) = true := by
  show ((Value.int .i64 x).oneCell' && (u.oneCell' && true)) = true
  rw [h]; rfl
theorem ld83 {w : World} {b o : Nat} {x : Int} {u : Value} (h : w.rangeAt b o [.int .i64 x, u]) : (Instr.loadAt 83 (pt b o)).run Try.prog w = .ok (.agg #[.int .i64 x, u]) w :=
  run_loadAt_mid w b o 83 [.int .i64 x, u] _ h Try.underlying83 rfl zs83
theorem ix95 (b off i n c : Nat) (h : i < n) (w : World) : (Instr.indexAt 95 (.slice (some ⟨b, off, none⟩) n c) (.int .i64 (i : Int))).run Try.prog w = .ok (pt b (off + i * 2)) w := by
  have e : (Instr.indexAt 95 (.slice (some ⟨b, off, none⟩) n c) (.int .i64 (i : Int))).run Try.prog w = .ok (.pointer (some ((⟨b, off, none⟩ : Addr).add (i * 2)))) w := by simp [go_sem, h]
  rw [e, Addr.add_mid]
theorem len95 (ρ : Operand → Value) (x : Operand) (p : Option Addr) (m c : Nat) (hx : ρ x = .slice p m c) (dst : Option Tmp) (type : TypeId) (pos : String) (after : Array Edge) (guard : Option (Nat × Bool)) (w : World) : (execOp ρ { dst, op := .call { callee := .builtin .len, args := #[x], argTypes := #[95] }, type, pos, after, guard }).run Try.prog w = .ok (.value (.int .i64 (m : Int))) w := by
  simp [go_sem, hx]
/-- The blocks in which copied rows lie. -/
def KZ (p : Option Addr) (Z : List (Py × Value)) (j : Nat) : Prop := pb p j ∨ ∃ z ∈ Z, ob z.2 = some j
theorem RA.mo {w w' : World} {p : Option Addr} {Z : List (Py × Value)} (h : RA w p Z) (m : Mo w w') : RA w' p Z := fun i z e => by
  obtain ⟨b, off, h1, h2, h3⟩ := h i z e
  exact ⟨b, off, h1, Nat.lt_of_lt_of_le h2 m.size, fun j v hv => (m.cell b _ h2).trans (h3 j v hv)⟩
theorem RA.kd {w w' : World} {p : Option Addr} {Z : List (Py × Value)} (h : RA w p Z) (k : ∀ j, pb p j → w'.heap[j]? = w.heap[j]?) : RA w' p Z := fun i z e => by
  obtain ⟨b, off, h1, h2, h3⟩ := h i z e
  have hb := k b ⟨off, h1⟩
  exact ⟨b, off, h1, lt_kd h2 hb, fun j v hv => (World.cell?_of_block (a := ⟨b, off + i * 2 + j, none⟩) hb).trans (h3 j v hv)⟩
theorem RV.mo {w w' : World} {Z : List (Py × Value)} (h : RV w Z) (m : Mo w w') : RV w' Z := fun z hz => (h z hz).mo m
/-- What is told of what is handed on. -/
def TZ (w : World) (Z : List (Py × Value)) (px : List (Py × Value) × (Py × Value)) (W : World) : Prop := (∃ z, Z[px.1.length]? = some z ∧ px.2.1 = z.1) ∧ Rw W 10 px.2.2 (px.2.1.vs.map V10.cells) ∧ ∀ b, ob px.2.2 = some b → w.heap.size ≤ b
namespace R
theorem tz_own {B : Nat} {w : World} {Z : List (Py × Value)} : OwnF B (TZ w Z) := fun _ _ _ _ h hg _ hr => ⟨h.1, h.2.1.grown hg (fun r e => (hr r e).2), h.2.2⟩
/-- All's iterator: the rows of a slice, each with a copy of its values, where a round keeps the slice's cells and the values'. -/
theorem all1_seq {m kb cap : Nat} {w : World} {p : Option Addr} {Z : List (Py × Value)} (hA : At w kb [.slice p Z.length cap]) (hRA : RA w p Z) (hRV : RV w Z) (hn : Z.length ≤ 100000) (hvs : ∀ z ∈ Z, z.1.vs.length ≤ 4096) :
    SeqG m Try.prog 42 #[] #[pt kb 0] (fun x : Py × Value => #[.int .i64 x.1.i, x.2]) (TZ w Z) (fun a b => Kd (KZ p Z) a b ∧ a.heap.size ≤ b.heap.size) (fun xs => xs.map (·.1) = Z.map (·.1)) (fun pre => ∃ i : Nat, 0 < i ∧ i ≤ Z.length ∧ pre.map (·.1) = (Z.take i).map (·.1)) Z.length w := by
  intro lp J Jx W hW hJ hJx hY h0
  replace hRA := hRA.mo hW
  replace hRV := hRV.mo hW
  have Q1 := hA.mo hW
  have M : Mo W W := Mo.refl _
  refine w_enter 20 Try.func42 Try.ntmps42 rfl rfl ?_
  refine w_seq ?_
  refine w_reg ?_
  refine wl_load 95 (.tmp 1) (pt kb 0) (.slice p Z.length cap) rfl rfl (run_one Q1 95 0 rfl Try.underlying95 rfl) rfl ?_
  refine wl_val (.int .i64 ((Z.length : Nat) : Int)) (len95 _ _ _ _ _ (by exact rfl) _ _ _ _ _ _) rfl ?_
  refine wl_mv (.const (.int .i64 (0))) (.int .i64 (0)) (fun _ => rfl) rfl rfl ?_
  refine w_nil ?_
  refine xn_then ?_
  refine w_block ?_
  refine w_loop (fun k l wc => ∃ (i : Nat) (pre : List (Py × Value)), k + i = Z.length ∧ look l 0 = .func (.yield lp) #[] #[] ∧ look l 5 = .slice p Z.length cap ∧ look l 6 = .int .i64 ((Z.length : Nat) : Int) ∧ look l 7 = .int .i64 ((i : Nat) : Int) ∧ pre.length = i ∧ pre.map (·.1) = (Z.take i).map (·.1) ∧ J pre wc ∧ RA wc p Z ∧ RV wc Z ∧ w.heap.size ≤ wc.heap.size) Z.length ⟨0, [], by omega, rfl, rfl, rfl, rfl, rfl, rfl, h0, hRA, hRV, hW.size⟩ ?_
  clear h0 hRA hRV Q1 M
  rintro k l wc ⟨i, pre, hm, g0, g5, g6, g7, hpl, hpm, hJi, hRA, hRV, hWc⟩
  have M : Mo wc wc := Mo.refl _
  refine w_seq ?_
  cases hf0 : decide (i < Z.length) with
  | true =>
    have hf0p := of_decide_eq_true hf0
    refine w_reg ?_
    refine wl_bin (fun x y => do eqGuard .lss 3 (.tmp 7) (.tmp 6) x y; binOp .lss 3 x y) (.tmp 7) (.tmp 6) (.int .i64 ((i : Nat) : Int)) (.int .i64 ((Z.length : Nat) : Int)) (.bool true) (fun _ => rfl) g7 g6 (ltN hf0 _ _ _) rfl ?_
    refine w_nil ?_
    refine xn_then ?_
    refine w_seq ?_
    refine w_condT rfl ?_
    refine w_skip ?_
    refine xn_then ?_
    refine w_seq ?_
    refine w_block ?_
    refine w_seq ?_
    refine w_reg ?_
    obtain ⟨z, hzi⟩ : ∃ z, Z[i]? = some z := ⟨Z[i]'(by omega), List.getElem?_eq_getElem _⟩
    obtain ⟨b, off, hpb, hbl, hrg⟩ := hRA _ z hzi
    have hone : z.2.oneCell' = true := by obtain ⟨_, _, e, _⟩ := hRV z (List.mem_of_getElem? hzi); rw [e]; rfl
    refine wl_bin (fun x y => Instr.indexAt 95 x y) (.tmp 5) (.tmp 7) (.slice p Z.length cap) (.int .i64 ((i : Nat) : Int)) (pt b (off + i * 2)) (fun _ => rfl) g5 g7 (by rw [hpb]; exact ix95 b off i _ _ (by omega) _) rfl ?_
    refine wl_load 83 (.tmp 9) (pt b (off + i * 2)) (.agg #[.int .i64 (z.1.i), z.2]) rfl rfl (ld83 hrg) rfl ?_
    refine wl_alloc 83 #[.int .i64 0, .slice none 0 0] rfl (fun _ => by kernel_rfl) rfl ?_
    intro k1 w11 hk hz hq Q1
    have N_k1 : wc.heap.size ≤ k1 := by have := M.size; omega
    replace M := M.trans hq
    clear hk hz hq
    refine wl_st 83 (.tmp 4) (.tmp 10) k1 0 #[.int .i64 (z.1.i), z.2] [.int .i64 0, .slice none 0 0] [.int .i64 (z.1.i), z.2] Q1 rfl rfl rfl rfl rfl zs83 (oc83 hone) rfl rfl ?_
    intro w12 hS Qn
    replace Q1 := Qn
    clear Qn
    replace M := hS.mo _ N_k1 M
    clear hS
    refine w_nil ?_
    refine xn_then ?_
    refine w_seq ?_
    have hzm := List.mem_of_getElem? hzi
    have hRz := (hRV z hzm).mo M
    obtain ⟨pv, cv, hzv, _⟩ := hRz
    replace hRz := (hRV z hzm).mo M
    have hvl := hvs z hzm
    have hsm : Smos [vq (.func (.yield lp) #[] #[]), vq (pt k1 0), vq (.int .i64 z.1.i), vq (pt k1 1), vq z.2, fun u w9 => Rw w9 10 u (z.1.vs.map V10.cells) ∧ (∀ b, ob u = some b → w12.heap.size ≤ b)] := smos_cons (smo_vq _) (smos_cons (smo_vq _) (smos_cons (smo_vq _) (smos_cons (smo_vq _) (smos_cons (smo_vq _) (smos_cons (fun u a b h m => ⟨h.1.mo m, h.2⟩) (smos_nil))))))
    have hgr : ∀ a b : World, Mo w12 a → Mo a b → Mo w12 b := fun _ _ h m => h.trans m
    refine w_ogr 6 (fun w9 => Mo w12 w9) [vq (.func (.yield lp) #[] #[]), vq (pt k1 0), vq (.int .i64 z.1.i), vq (pt k1 1), vq z.2, fun u w9 => Rw w9 10 u (z.1.vs.map V10.cells) ∧ (∀ b, ob u = some b → w12.heap.size ≤ b)] (by kernel_rfl) (by kernel_rfl) (by kernel_rfl) (by kernel_rfl) rfl (by kernel_rfl) ((Mo.refl _).drew) ?_ ?_
    · refine ea_cons ?_ (ea_cons ?_ (ea_cons ?_ (ea_cons ?_ (ea_cons ?_ (ea_cons ?_ (ea_nil))))))
      · exact oc_eq (.func (.yield lp) #[] #[]) rfl hgr hsm (fun f wf hG hd K9 hK => go_run rfl (wo_mv (.tmp 0) (.func (.yield lp) #[] #[]) (fun _ => rfl) g0 (hK _ (Mo.refl _))))
      · exact oc_eq (pt k1 0) rfl hgr hsm (fun f wf hG hd K9 hK => go_run rfl (wo_un (fun v => Instr.fieldAt 83 v 0) (.tmp 4) (pt k1 0) (pt k1 0) (fun _ => rfl) rfl (by kernel_rfl) (hK _ (Mo.refl _))))
      · exact oc_eq (.int .i64 z.1.i) rfl hgr hsm (fun f wf hG hd K9 hK => have Q9 := Q1.mo hG; go_run rfl (wo_load 2 (.tmp 12) (pt k1 0) (.int .i64 z.1.i) rfl (hd 1 rfl) (run_one Q9 2 0 rfl Try.underlying2 rfl) (hK _ (Mo.refl _))))
      · exact oc_eq (pt k1 1) rfl hgr hsm (fun f wf hG hd K9 hK => go_run rfl (wo_un (fun v => Instr.fieldAt 83 v 1) (.tmp 4) (pt k1 0) (pt k1 1) (fun _ => rfl) rfl (by kernel_rfl) (hK _ (Mo.refl _))))
      · exact oc_eq (z.2) rfl hgr hsm (fun f wf hG hd K9 hK => have Q9 := Q1.mo hG; go_run rfl (wo_load 29 (.tmp 14) (pt k1 1) (z.2) rfl (hd 3 rfl) (run_one Q9 29 1 rfl Try.underlying29 rfl) (hK _ (Mo.refl _))))
      · refine ⟨fun f wf hG hd K9 hK => ?_⟩
        have hRf := hRz.mo hG
        rw [hzv] at hRf
        refine go_run rfl (wo_callx 22 [(.tmp 15)] _ [.slice pv (z.1.vs.map V10.cells).length cv] rfl (li1 ((hd 4 rfl).trans hzv)) (fun _ _ => by kernel_rfl) (clv_n (fun y hy => by obtain ⟨q, _, rfl⟩ := List.mem_map.1 hy; rfl) hRf.rows (by rw [List.length_map]; omega)) (fun e9 w9 ⟨p9, c9, he, h1, h2, hq⟩ => ⟨_, he, hK _ w9 (hG.trans hq) ⟨h1, fun b hb => Nat.le_trans hG.size (h2 b hb)⟩ (fun j u _ hr => hsm j u _ _ hr hq)⟩))
    intro f w13 hq hR9
    have r0 := hR9 0 rfl
    have r2 := hR9 2 rfl
    obtain ⟨hU1, hU2⟩ := hR9 5 rfl
    clear hsm hgr
    obtain ⟨u, hu⟩ : ∃ u, u = f 5 := ⟨_, rfl⟩
    rw [← hu] at hU1 hU2
    have hMM := M.trans hq
    refine rl_yield (.tmp 11) [(.tmp 13), (.tmp 16)] _ [.int .i64 z.1.i, u] lp rfl r0 (li2 r2 hu.symm) rfl (hY pre (z.1, u) _ (hJ _ _ _ hJi hMM) ⟨⟨z, by rw [hpl]; exact hzi, rfl⟩, hU1, fun b hb => Nat.le_trans (Nat.le_trans hWc M.size) (hU2 b hb)⟩ (by omega)) ?_
    rintro e w14 (⟨rfl, hJ2, hk2⟩ | ⟨rfl, hJx2⟩)
    · refine ⟨_, rfl, ?_⟩
      replace hRA := (hRA.mo hMM).kd (fun j hj => hk2.1 j (Or.inl hj))
      replace hRV : RV w14 Z := fun y hy => ((hRV y hy).mo hMM).kd (fun c hc => hk2.1 c (Or.inr ⟨y, hy, hc⟩))
      have hWs : w.heap.size ≤ w14.heap.size := Nat.le_trans (Nat.le_trans hWc hMM.size) hk2.2
      refine rl_o rfl (wo_un (fun v => Op.unary .not v) (.tmp 17) (.bool true) (.bool false) (fun _ => rfl) rfl (by kernel_rfl) ⟨_, rfl, ?_⟩)
      refine rl_nil ?_
      refine xn_then ?_
      refine w_condF rfl ?_
      refine w_skip ?_
      refine xn_blk ?_
      refine xn_then ?_
      refine w_reg ?_
      refine wl_bin (fun x y => do eqGuard .add 3 (.tmp 7) (.const (.int .i64 (1))) x y; binOp .add 3 x y) (.tmp 7) (.const (.int .i64 (1))) (.int .i64 ((i : Nat) : Int)) (.int .i64 (1)) (.int .i64 ((i + 1 : Nat) : Int)) (fun _ => rfl) g7 rfl (add1r (by omega) _ _ _) rfl ?_
      refine wl_mv (.tmp 19) (.int .i64 ((i + 1 : Nat) : Int)) (fun _ => rfl) rfl rfl ?_
      refine w_nil ?_
      have hpm2 : (pre ++ [(z.1, u)]).map (·.1) = (Z.take (i + 1)).map (·.1) := by rw [List.take_add_one, hzi, List.map_append, List.map_append, hpm]; rfl
      exact xn_loop (k - 1) (by omega) ⟨i + 1, pre ++ [(z.1, u)], by omega, g0, g5, g6, rfl, by rw [List.length_append, hpl]; rfl, hpm2, hJ2, hRA, hRV, hWs⟩
    · refine ⟨_, rfl, ?_⟩
      refine rl_o rfl (wo_un (fun v => Op.unary .not v) (.tmp 17) (.bool false) (.bool true) (fun _ => rfl) rfl (by kernel_rfl) ⟨_, rfl, ?_⟩)
      refine rl_nil ?_
      refine xn_then ?_
      refine w_condT rfl ?_
      refine w_ret ?_
      refine xr_blk ?_
      refine xr_then ?_
      refine xr_then ?_
      refine xr_blk ?_
      exact w_ret0 rfl ⟨⟨_, rfl⟩, .inr ⟨_, ⟨i + 1, by omega, by omega, by rw [List.take_add_one, hzi, List.map_append, List.map_append, hpm]; rfl⟩, hJx2⟩⟩
  | false =>
    have hf0p := of_decide_eq_false hf0
    refine w_reg ?_
    refine wl_bin (fun x y => do eqGuard .lss 3 (.tmp 7) (.tmp 6) x y; binOp .lss 3 x y) (.tmp 7) (.tmp 6) (.int .i64 ((i : Nat) : Int)) (.int .i64 ((Z.length : Nat) : Int)) (.bool false) (fun _ => rfl) g7 g6 (ltN hf0 _ _ _) rfl ?_
    refine w_nil ?_
    refine xn_then ?_
    refine w_seq ?_
    refine w_condF rfl ?_
    refine w_exit ?_
    refine xx_then ?_
    refine xx_then ?_
    refine xx_blk ?_
    exact w_end0 rfl ⟨⟨_, rfl⟩, .inl ⟨_, by show List.map _ pre = _; rw [hpm, show i = Z.length by omega, List.take_length], hJi⟩⟩
end R
end G
end Go.Proofs.Ythfemlhmnjfjiaa
/-
  All; a tree that no call made.
-/
namespace Go.Proofs.Ythfemlhmnjfjiaa
open Go.RowKit
namespace G
namespace R
end R
section
variable {w : World}
theorem all_n {t : Nat} {mb : Hd} {D : Nat → Prop} {lk : Int} {tr : T} (hF : FT D w t mb tr lk) : Calls Try.prog 21 #[pt t 0] w fun e w' => ∃ (kb : Nat) (p : Option Addr) (cap : Nat) (Z : List (Py × Value)), e = .returned (.func (.func 42) #[] #[pt kb 0]) ∧ At w' kb [.slice p Z.length cap] ∧ Z.map (·.1) = tr.ids ∧ RA w' p Z ∧ RV w' Z ∧ (∀ k, pb p k → w.heap.size ≤ k ∧ k < w'.heap.size) ∧ (∀ z ∈ Z, ∀ b, ob z.2 = some b → w.heap.size ≤ b ∧ b < w'.heap.size) ∧ w.heap.size ≤ kb ∧ Mo w w' := by
  refine w_enter 7 Try.func21 Try.ntmps21 rfl rfl ?_
  have M : Mo w w := Mo.refl _
  refine w_seq ?_
  refine w_reg ?_
  refine wl_mv (.const (Go.Value.nilFunc)) (.nilFunc) (fun _ => rfl) rfl rfl ?_
  refine w_nil ?_
  refine xn_then ?_
  refine w_seq ?_
  refine w_reg ?_
  refine wl_mv (.tmp 0) (pt t 0) (fun _ => rfl) rfl rfl ?_
  refine wl_callx 41 [(.tmp 4)] _ [pt t 0] rfl rfl (fun _ _ => by kernel_rfl) (R.rows_n hF) rfl ?_
  rintro _ w1 ⟨p, cap, Z, rfl, hZ, hRA, hRV, hpb, hnz, hq⟩
  refine ⟨_, rfl, ?_⟩
  have N9 := hq.size
  replace M := M.trans hq
  clear hq
  refine wl_alloc 95 #[.slice none 0 0] rfl (fun _ => by kernel_rfl) rfl ?_
  intro k1 w2 hk hz hq Q1
  replace hRA := hRA.mo hq
  replace hRV := hRV.mo hq
  have hZs : w2.heap.size = k1 + 1 := hz
  have hk1s := hk
  have N_k1 : w.heap.size ≤ k1 := by have := M.size; omega
  replace M := M.trans hq
  clear hk hz hq
  refine wl_st1x 95 (.tmp 3) (.tmp 5) k1 0 (.slice p Z.length cap) [.slice none 0 0] [.slice p Z.length cap] Q1 rfl rfl rfl rfl rfl zs95 rfl rfl rfl rfl ?_
  intro w3 hS Qn
  replace hRA := hRA.kd (fun j hj => hS.block j (fun e => by have := (hpb j hj).2; omega))
  replace hRV : RV w3 Z := fun z hz => (hRV z hz).kd (fun b hb => hS.block b (fun e => by have := (hnz z hz b hb).2; omega))
  have hSs := hS.size
  replace Q1 := Qn
  clear Qn
  replace M := (Mk.refl (fun j => j = k1) _ |>.st hS rfl).mo M (fun _ e => e ▸ N_k1)
  clear hS
  refine w_nil ?_
  refine xn_then ?_
  refine w_seq ?_
  refine w_reg ?_
  refine wl_val (.func (.func 42) #[] #[pt k1 0]) (mf2 42 _ _ _ (by exact rfl) _ _ _ _ _ _) rfl ?_
  refine wl_mv (.tmp 6) (.func (.func 42) #[] #[pt k1 0]) (fun _ => rfl) rfl rfl ?_
  refine w_nil ?_
  refine xn_then ?_
  refine w_ret ?_
  exact w_ret1 _ (.func (.func 42) #[] #[pt k1 0]) rfl rfl ⟨k1, p, cap, Z, rfl, Q1, hZ, hRA, hRV, fun k hk => ⟨(hpb k hk).1, by have := (hpb k hk).2; omega⟩, fun z hz b hb => ⟨(hnz z hz b hb).1, by have := (hnz z hz b hb).2; omega⟩, N_k1, M⟩
/-- No tree, or one that no call made. -/
def UT (w : World) : Option Nat → Prop
  | none => True
  | some k => At w k [.slice none 0 0, .pointer none, .map none, .int .i64 0]
theorem UT.mo {w w' : World} {x : Option Nat} (h : UT w x) (m : Mo w w') : UT w' x := by
  cases x with
  | none => trivial
  | some k => exact At.mo h m
theorem made_0 : Calls Try.prog 30 #[pp none] w fun e w' => e = .returned (.bool false) ∧ Mo w w' := by
  refine w_enter 12 Try.func30 Try.ntmps30 rfl rfl ?_
  have M : Mo w w := Mo.refl _
  refine w_seq ?_
  refine w_reg ?_
  refine wl_mv (.const (.bool false)) (.bool false) (fun _ => rfl) rfl rfl ?_
  refine w_nil ?_
  refine xn_then ?_
  refine w_seq ?_
  refine w_reg ?_
  refine wl_mv (.tmp 0) (pp none) (fun _ => rfl) rfl rfl ?_
  refine wl_bin (fun x y => do eqGuard .neq 24 (.tmp 3) (.const (.pointer none)) x y; binOp .neq 24 x y) (.tmp 3) (.const (.pointer none)) (pp none) (pp none) (.bool false) (fun _ => rfl) rfl rfl (by kernel_rfl) rfl ?_
  refine wl_mv (.tmp 4) (.bool false) (fun _ => rfl) rfl rfl ?_
  refine wl_skip rfl ?_
  refine wl_skip rfl ?_
  refine wl_skip rfl ?_
  refine wl_skip rfl ?_
  refine wl_skip rfl ?_
  refine wl_pick (.tmp 5) (.tmp 10) (.const (.bool false)) false (.bool false) (fun _ => rfl) rfl rfl rfl ?_
  refine wl_mv (.tmp 11) (.bool false) (fun _ => rfl) rfl rfl ?_
  refine w_nil ?_
  refine xn_then ?_
  refine w_ret ?_
  exact w_ret1 _ (.bool false) rfl rfl ⟨rfl, M⟩
theorem made_z {k : Nat} (Qk : At w k [.slice none 0 0, .pointer none, .map none, .int .i64 0]) : Calls Try.prog 30 #[pt k 0] w fun e w' => e = .returned (.bool false) ∧ Mo w w' := by
  refine w_enter 12 Try.func30 Try.ntmps30 rfl rfl ?_
  have M : Mo w w := Mo.refl _
  refine w_seq ?_
  refine w_reg ?_
  refine wl_mv (.const (.bool false)) (.bool false) (fun _ => rfl) rfl rfl ?_
  refine w_nil ?_
  refine xn_then ?_
  refine w_seq ?_
  refine w_reg ?_
  refine wl_mv (.tmp 0) (pt k 0) (fun _ => rfl) rfl rfl ?_
  refine wl_bin (fun x y => do eqGuard .neq 24 (.tmp 3) (.const (.pointer none)) x y; binOp .neq 24 x y) (.tmp 3) (.const (.pointer none)) (pt k 0) (pp none) (.bool true) (fun _ => rfl) rfl rfl (neT k _ _ _) rfl ?_
  refine wl_mv (.tmp 4) (.bool true) (fun _ => rfl) rfl rfl ?_
  refine wl_mv (.tmp 0) (pt k 0) (fun _ => rfl) rfl rfl ?_
  refine wl_nc (.tmp 6) k 0 rfl rfl rfl ?_
  refine wl_un (fun v => Instr.fieldAt 68 v 2) (.tmp 7) (pt k 0) (pt k 2) (fun _ => rfl) rfl (by kernel_rfl) rfl ?_
  refine wl_load 66 (.tmp 8) (pt k 2) (.map none) rfl rfl (run_one Qk 66 2 rfl Try.underlying66 rfl) rfl ?_
  refine wl_bin (fun x y => do eqGuard .neq 66 (.tmp 9) (.const (.map none)) x y; binOp .neq 66 x y) (.tmp 9) (.const (.map none)) (.map none) (.map none) (.bool false) (fun _ => rfl) rfl rfl (by kernel_rfl) rfl ?_
  refine wl_pick (.tmp 5) (.tmp 10) (.const (.bool false)) true (.bool false) (fun _ => rfl) rfl rfl rfl ?_
  refine wl_mv (.tmp 11) (.bool false) (fun _ => rfl) rfl rfl ?_
  refine w_nil ?_
  refine xn_then ?_
  refine w_ret ?_
  exact w_ret1 _ (.bool false) rfl rfl ⟨rfl, M⟩
theorem made_u {x : Option Nat} (h : UT w x) : Calls Try.prog 30 #[pp x] w fun e w' => e = .returned (.bool false) ∧ Mo w w' := by
  cases x with
  | none => exact made_0
  | some k => exact made_z h
theorem len_u {x : Option Nat} (hU : UT w x)  : Calls Try.prog 10 #[pp x] w fun e w' => e = .returned (.int .i64 0) ∧ Mo w w' := by
  refine w_enter 11 Try.func10 Try.ntmps10 rfl rfl ?_
  have M : Mo w w := Mo.refl _
  refine w_seq ?_
  refine w_reg ?_
  refine wl_mv (.const (.int .i64 (0))) (.int .i64 (0)) (fun _ => rfl) rfl rfl ?_
  refine w_nil ?_
  refine xn_then ?_
  refine w_seq ?_
  refine w_seq ?_
  refine w_reg ?_
  refine wl_mv (.tmp 0) (pp x) (fun _ => rfl) rfl rfl ?_
  refine wl_call 30 [(.tmp 3)] _ [pp x] (.bool false) rfl rfl (fun _ _ => by kernel_rfl) (made_u (hU.mo M)) rfl ?_
  intro w1 hq
  replace M := M.trans hq
  clear hq
  refine wl_un (fun v => Op.unary .not v) (.tmp 4) (.bool false) (.bool true) (fun _ => rfl) rfl (by kernel_rfl) rfl ?_
  refine w_nil ?_
  refine xn_then ?_
  refine w_condT rfl ?_
  refine w_seq ?_
  refine w_reg ?_
  refine wl_mv (.const (.int .i64 (0))) (.int .i64 (0)) (fun _ => rfl) rfl rfl ?_
  refine w_nil ?_
  refine xn_then ?_
  refine w_ret ?_
  refine xr_then ?_
  exact w_ret1 _ (.int .i64 (0)) rfl rfl ⟨rfl, M⟩
theorem looked_u {x : Option Nat} (hU : UT w x)  : Calls Try.prog 14 #[pp x] w fun e w' => e = .returned (.int .i64 0) ∧ Mo w w' := by
  refine w_enter 10 Try.func14 Try.ntmps14 rfl rfl ?_
  have M : Mo w w := Mo.refl _
  refine w_seq ?_
  refine w_reg ?_
  refine wl_mv (.const (.int .i64 (0))) (.int .i64 (0)) (fun _ => rfl) rfl rfl ?_
  refine w_nil ?_
  refine xn_then ?_
  refine w_seq ?_
  refine w_seq ?_
  refine w_reg ?_
  refine wl_mv (.tmp 0) (pp x) (fun _ => rfl) rfl rfl ?_
  refine wl_call 30 [(.tmp 3)] _ [pp x] (.bool false) rfl rfl (fun _ _ => by kernel_rfl) (made_u (hU.mo M)) rfl ?_
  intro w1 hq
  replace M := M.trans hq
  clear hq
  refine wl_un (fun v => Op.unary .not v) (.tmp 4) (.bool false) (.bool true) (fun _ => rfl) rfl (by kernel_rfl) rfl ?_
  refine w_nil ?_
  refine xn_then ?_
  refine w_condT rfl ?_
  refine w_seq ?_
  refine w_reg ?_
  refine wl_mv (.const (.int .i64 (0))) (.int .i64 (0)) (fun _ => rfl) rfl rfl ?_
  refine w_nil ?_
  refine xn_then ?_
  refine w_ret ?_
  refine xr_then ?_
  exact w_ret1 _ (.int .i64 (0)) rfl rfl ⟨rfl, M⟩
theorem depth_u {x : Option Nat} (hU : UT w x)  : Calls Try.prog 19 #[pp x] w fun e w' => e = .returned (.int .i64 0) ∧ Mo w w' := by
  refine w_enter 11 Try.func19 Try.ntmps19 rfl rfl ?_
  have M : Mo w w := Mo.refl _
  refine w_seq ?_
  refine w_reg ?_
  refine wl_mv (.const (.int .i64 (0))) (.int .i64 (0)) (fun _ => rfl) rfl rfl ?_
  refine w_nil ?_
  refine xn_then ?_
  refine w_seq ?_
  refine w_seq ?_
  refine w_reg ?_
  refine wl_mv (.tmp 0) (pp x) (fun _ => rfl) rfl rfl ?_
  refine wl_call 30 [(.tmp 3)] _ [pp x] (.bool false) rfl rfl (fun _ _ => by kernel_rfl) (made_u (hU.mo M)) rfl ?_
  intro w1 hq
  replace M := M.trans hq
  clear hq
  refine wl_un (fun v => Op.unary .not v) (.tmp 4) (.bool false) (.bool true) (fun _ => rfl) rfl (by kernel_rfl) rfl ?_
  refine w_nil ?_
  refine xn_then ?_
  refine w_condT rfl ?_
  refine w_seq ?_
  refine w_reg ?_
  refine wl_mv (.const (.int .i64 (0))) (.int .i64 (0)) (fun _ => rfl) rfl rfl ?_
  refine w_nil ?_
  refine xn_then ?_
  refine w_ret ?_
  refine xr_then ?_
  exact w_ret1 _ (.int .i64 (0)) rfl rfl ⟨rfl, M⟩
theorem clone_u {x : Option Nat} (hU : UT w x)  : Calls Try.prog 26 #[pp x] w fun e w' => e = .returned (pp none) ∧ Mo w w' := by
  refine w_enter 29 Try.func26 Try.ntmps26 rfl rfl ?_
  have M : Mo w w := Mo.refl _
  refine w_seq ?_
  refine w_reg ?_
  refine wl_mv (.const (.pointer none)) (pp none) (fun _ => rfl) rfl rfl ?_
  refine w_nil ?_
  refine xn_then ?_
  refine w_seq ?_
  refine w_seq ?_
  refine w_reg ?_
  refine wl_mv (.tmp 0) (pp x) (fun _ => rfl) rfl rfl ?_
  refine wl_call 30 [(.tmp 4)] _ [pp x] (.bool false) rfl rfl (fun _ _ => by kernel_rfl) (made_u (hU.mo M)) rfl ?_
  intro w1 hq
  replace M := M.trans hq
  clear hq
  refine wl_un (fun v => Op.unary .not v) (.tmp 5) (.bool false) (.bool true) (fun _ => rfl) rfl (by kernel_rfl) rfl ?_
  refine w_nil ?_
  refine xn_then ?_
  refine w_condT rfl ?_
  refine w_seq ?_
  refine w_reg ?_
  refine wl_mv (.const (.pointer none)) (pp none) (fun _ => rfl) rfl rfl ?_
  refine w_nil ?_
  refine xn_then ?_
  refine w_ret ?_
  refine xr_then ?_
  exact w_ret1 _ (pp none) rfl rfl ⟨rfl, M⟩
theorem delete_u {x : Option Nat} (hU : UT w x) (id : Int) : Calls Try.prog 15 #[pp x, .int .i64 (id)] w fun e w' => e = .returned (.tuple #[.int .i64 0, .int .i64 2]) ∧ Mo w w' := by
  refine w_enter 26 Try.func15 Try.ntmps15 rfl rfl ?_
  have M : Mo w w := Mo.refl _
  refine w_seq ?_
  refine w_reg ?_
  refine wl_mv (.const (.int .i64 (0))) (.int .i64 (0)) (fun _ => rfl) rfl rfl ?_
  refine wl_mv (.const (.int .i64 (0))) (.int .i64 (0)) (fun _ => rfl) rfl rfl ?_
  refine w_nil ?_
  refine xn_then ?_
  refine w_seq ?_
  refine w_seq ?_
  refine w_reg ?_
  refine wl_mv (.tmp 0) (pp x) (fun _ => rfl) rfl rfl ?_
  refine wl_call 30 [(.tmp 8)] _ [pp x] (.bool false) rfl rfl (fun _ _ => by kernel_rfl) (made_u (hU.mo M)) rfl ?_
  intro w1 hq
  replace M := M.trans hq
  clear hq
  refine wl_un (fun v => Op.unary .not v) (.tmp 9) (.bool false) (.bool true) (fun _ => rfl) rfl (by kernel_rfl) rfl ?_
  refine w_nil ?_
  refine xn_then ?_
  refine w_condT rfl ?_
  refine w_seq ?_
  refine w_reg ?_
  refine wl_mv (.const (.int .i64 (0))) (.int .i64 (0)) (fun _ => rfl) rfl rfl ?_
  refine wl_mv (.const (.int .i64 (2))) (.int .i64 (2)) (fun _ => rfl) rfl rfl ?_
  refine w_nil ?_
  refine xn_then ?_
  refine w_ret ?_
  refine xr_then ?_
  exact w_ret2 _ _ (.int .i64 (0)) (.int .i64 (2)) rfl rfl rfl ⟨rfl, M⟩
theorem move_u {x : Option Nat} (hU : UT w x) (id at0 : Int) : Calls Try.prog 16 #[pp x, .int .i64 (id), .int .i64 (at0)] w fun e w' => e = .returned (.tuple #[.int .i64 0, .int .i64 2]) ∧ Mo w w' := by
  refine w_enter 45 Try.func16 Try.ntmps16 rfl rfl ?_
  have M : Mo w w := Mo.refl _
  refine w_seq ?_
  refine w_reg ?_
  refine wl_mv (.const (.int .i64 (0))) (.int .i64 (0)) (fun _ => rfl) rfl rfl ?_
  refine wl_mv (.const (.int .i64 (0))) (.int .i64 (0)) (fun _ => rfl) rfl rfl ?_
  refine w_nil ?_
  refine xn_then ?_
  refine w_seq ?_
  refine w_seq ?_
  refine w_reg ?_
  refine wl_mv (.tmp 0) (pp x) (fun _ => rfl) rfl rfl ?_
  refine wl_call 30 [(.tmp 11)] _ [pp x] (.bool false) rfl rfl (fun _ _ => by kernel_rfl) (made_u (hU.mo M)) rfl ?_
  intro w1 hq
  replace M := M.trans hq
  clear hq
  refine wl_un (fun v => Op.unary .not v) (.tmp 12) (.bool false) (.bool true) (fun _ => rfl) rfl (by kernel_rfl) rfl ?_
  refine w_nil ?_
  refine xn_then ?_
  refine w_condT rfl ?_
  refine w_seq ?_
  refine w_reg ?_
  refine wl_mv (.const (.int .i64 (0))) (.int .i64 (0)) (fun _ => rfl) rfl rfl ?_
  refine wl_mv (.const (.int .i64 (2))) (.int .i64 (2)) (fun _ => rfl) rfl rfl ?_
  refine w_nil ?_
  refine xn_then ?_
  refine w_ret ?_
  refine xr_then ?_
  exact w_ret2 _ _ (.int .i64 (0)) (.int .i64 (2)) rfl rfl rfl ⟨rfl, M⟩
theorem index_u {x : Option Nat} (hU : UT w x) (id : Int) : Calls Try.prog 25 #[pp x, .int .i64 (id)] w fun e w' => e = .returned (.tuple #[.int .i64 0, .bool false]) ∧ Mo w w' := by
  refine w_enter 21 Try.func25 Try.ntmps25 rfl rfl ?_
  have M : Mo w w := Mo.refl _
  refine w_seq ?_
  refine w_reg ?_
  refine wl_mv (.const (.int .i64 (0))) (.int .i64 (0)) (fun _ => rfl) rfl rfl ?_
  refine wl_mv (.const (.bool false)) (.bool false) (fun _ => rfl) rfl rfl ?_
  refine w_nil ?_
  refine xn_then ?_
  refine w_seq ?_
  refine w_seq ?_
  refine w_reg ?_
  refine wl_mv (.tmp 0) (pp x) (fun _ => rfl) rfl rfl ?_
  refine wl_call 30 [(.tmp 7)] _ [pp x] (.bool false) rfl rfl (fun _ _ => by kernel_rfl) (made_u (hU.mo M)) rfl ?_
  intro w1 hq
  replace M := M.trans hq
  clear hq
  refine wl_un (fun v => Op.unary .not v) (.tmp 8) (.bool false) (.bool true) (fun _ => rfl) rfl (by kernel_rfl) rfl ?_
  refine w_nil ?_
  refine xn_then ?_
  refine w_condT rfl ?_
  refine w_seq ?_
  refine w_reg ?_
  refine wl_mv (.const (.int .i64 (0))) (.int .i64 (0)) (fun _ => rfl) rfl rfl ?_
  refine wl_mv (.const (.bool false)) (.bool false) (fun _ => rfl) rfl rfl ?_
  refine w_nil ?_
  refine xn_then ?_
  refine w_ret ?_
  refine xr_then ?_
  exact w_ret2 _ _ (.int .i64 (0)) (.bool false) rfl rfl rfl ⟨rfl, M⟩
theorem at_u {x : Option Nat} (hU : UT w x)  : Calls Try.prog 24 #[pp x, .int .i64 (0)] w fun e w' => e = .returned (.tuple #[.int .i64 0, .bool false]) ∧ Mo w w' := by
  refine w_enter 21 Try.func24 Try.ntmps24 rfl rfl ?_
  have M : Mo w w := Mo.refl _
  refine w_seq ?_
  refine w_reg ?_
  refine wl_mv (.const (.int .i64 (0))) (.int .i64 (0)) (fun _ => rfl) rfl rfl ?_
  refine wl_mv (.const (.bool false)) (.bool false) (fun _ => rfl) rfl rfl ?_
  refine w_nil ?_
  refine xn_then ?_
  refine w_seq ?_
  refine w_seq ?_
  refine w_reg ?_
  refine wl_mv (.tmp 1) (.int .i64 (0)) (fun _ => rfl) rfl rfl ?_
  refine wl_bin (fun x y => do eqGuard .lss 3 (.tmp 6) (.const (.int .i64 (0))) x y; binOp .lss 3 x y) (.tmp 6) (.const (.int .i64 (0))) (.int .i64 (0)) (.int .i64 (0)) (.bool false) (fun _ => rfl) rfl rfl (by kernel_rfl) rfl ?_
  refine wl_mv (.tmp 7) (.bool false) (fun _ => rfl) rfl rfl ?_
  refine wl_mv (.tmp 1) (.int .i64 (0)) (fun _ => rfl) rfl rfl ?_
  refine wl_mv (.tmp 0) (pp x) (fun _ => rfl) rfl rfl ?_
  refine wl_call 10 [(.tmp 10)] _ [pp x] (.int .i64 (0)) rfl rfl (fun _ _ => by kernel_rfl) (len_u (hU.mo M)) rfl ?_
  intro w1 hq
  replace M := M.trans hq
  clear hq
  refine wl_bin (fun x y => do eqGuard .geq 3 (.tmp 9) (.tmp 11) x y; binOp .geq 3 x y) (.tmp 9) (.tmp 11) (.int .i64 (0)) (.int .i64 (0)) (.bool true) (fun _ => rfl) rfl rfl (by kernel_rfl) rfl ?_
  refine wl_pick (.tmp 8) (.const (.bool true)) (.tmp 12) false (.bool true) (fun _ => rfl) rfl rfl rfl ?_
  refine w_nil ?_
  refine xn_then ?_
  refine w_condT rfl ?_
  refine w_seq ?_
  refine w_reg ?_
  refine wl_mv (.const (.int .i64 (0))) (.int .i64 (0)) (fun _ => rfl) rfl rfl ?_
  refine wl_mv (.const (.bool false)) (.bool false) (fun _ => rfl) rfl rfl ?_
  refine w_nil ?_
  refine xn_then ?_
  refine w_ret ?_
  refine xr_then ?_
  exact w_ret2 _ _ (.int .i64 (0)) (.bool false) rfl rfl rfl ⟨rfl, M⟩
theorem insert_u {x : Option Nat} (hU : UT w x) (at0 id : Int) : Calls Try.prog 9 #[pp x, .int .i64 (at0), .int .i64 (id), .slice none 0 0] w fun e w' => e = .returned (.int .i64 2) ∧ Mo w w' := by
  refine w_enter 57 Try.func9 Try.ntmps9 rfl rfl ?_
  have M : Mo w w := Mo.refl _
  refine w_seq ?_
  refine w_reg ?_
  refine wl_mv (.const (.int .i64 (0))) (.int .i64 (0)) (fun _ => rfl) rfl rfl ?_
  refine w_nil ?_
  refine xn_then ?_
  refine w_seq ?_
  refine w_block ?_
  refine w_seq ?_
  refine w_reg ?_
  refine wl_mv (.tmp 0) (pp x) (fun _ => rfl) rfl rfl ?_
  refine wl_call 30 [(.tmp 10)] _ [pp x] (.bool false) rfl rfl (fun _ _ => by kernel_rfl) (made_u (hU.mo M)) rfl ?_
  intro w1 hq
  replace M := M.trans hq
  clear hq
  refine wl_un (fun v => Op.unary .not v) (.tmp 11) (.bool false) (.bool true) (fun _ => rfl) rfl (by kernel_rfl) rfl ?_
  refine wl_mv (.tmp 12) (.bool true) (fun _ => rfl) rfl rfl ?_
  refine w_nil ?_
  refine xn_then ?_
  refine w_condT rfl ?_
  refine w_seq ?_
  refine w_reg ?_
  refine wl_mv (.const (.int .i64 (2))) (.int .i64 (2)) (fun _ => rfl) rfl rfl ?_
  refine w_nil ?_
  refine xn_then ?_
  refine w_ret ?_
  refine xr_blk ?_
  refine xr_then ?_
  exact w_ret1 _ (.int .i64 (2)) rfl rfl ⟨rfl, M⟩
theorem set_u {x : Option Nat} (hU : UT w x) (id cn : Int) : Calls Try.prog 17 #[pp x, .int .i64 (id), .int .i64 (cn), V10.v v0] w fun e w' => e = .returned (.int .i64 2) ∧ Mo w w' := by
  refine w_enter 37 Try.func17 Try.ntmps17 rfl rfl ?_
  have M : Mo w w := Mo.refl _
  refine w_seq ?_
  refine w_reg ?_
  refine wl_box 55 (.tmp 3) (V10.v v0) (((V10.cells v0).toArray)) rfl rfl (fun _ => by kernel_rfl) rfl ?_
  intro k1 w1 hk hz hq Q1
  have N_k1 : w.heap.size ≤ k1 := by have := M.size; omega
  replace M := M.trans hq
  clear hk hz hq
  refine wl_mv (.const (.int .i64 (0))) (.int .i64 (0)) (fun _ => rfl) rfl rfl ?_
  refine w_nil ?_
  refine xn_then ?_
  refine w_seq ?_
  refine w_seq ?_
  refine w_reg ?_
  refine wl_mv (.tmp 0) (pp x) (fun _ => rfl) rfl rfl ?_
  refine wl_call 30 [(.tmp 10)] _ [pp x] (.bool false) rfl rfl (fun _ _ => by kernel_rfl) (made_u (hU.mo M)) rfl ?_
  intro w2 hq
  replace Q1 := Q1.mo hq
  replace M := M.trans hq
  clear hq
  refine wl_un (fun v => Op.unary .not v) (.tmp 11) (.bool false) (.bool true) (fun _ => rfl) rfl (by kernel_rfl) rfl ?_
  refine w_nil ?_
  refine xn_then ?_
  refine w_condT rfl ?_
  refine w_seq ?_
  refine w_reg ?_
  refine wl_mv (.const (.int .i64 (2))) (.int .i64 (2)) (fun _ => rfl) rfl rfl ?_
  refine w_nil ?_
  refine xn_then ?_
  refine w_ret ?_
  refine xr_then ?_
  exact w_ret1 _ (.int .i64 (2)) rfl rfl ⟨rfl, M⟩
theorem sum_u {x : Option Nat} (hU : UT w x) (cn : Int) : Calls Try.prog 12 #[pp x, .int .i64 (cn)] w fun e w' => e = .returned (.tuple #[smv sm0, .int .i64 2]) ∧ Mo w w' := by
  refine w_enter 28 Try.func12 Try.ntmps12 rfl rfl ?_
  have M : Mo w w := Mo.refl _
  refine w_seq ?_
  refine w_reg ?_
  refine wl_alloc 42 #[.int .i64 0, .int .i64 0, .int .i64 0, .int .i64 0, .int .i64 0, .int .u64 0, .int .u64 0, .int .u64 0, .int .u64 0, .int .u64 0, .bool false, .bool false, .int .u64 0, .int .u64 0, .int .u64 0, .int .u64 0, .int .i64 0, .bool false, .int .u64 0, .int .u64 0, .int .u64 0, .int .u64 0, .int .i64 0] rfl (fun _ => by kernel_rfl) rfl ?_
  intro k1 w1 hk hz hq Q1
  have N_k1 : w.heap.size ≤ k1 := by have := M.size; omega
  replace M := M.trans hq
  clear hk hz hq
  refine wl_mv (.const (.int .i64 (0))) (.int .i64 (0)) (fun _ => rfl) rfl rfl ?_
  refine w_nil ?_
  refine xn_then ?_
  refine w_seq ?_
  refine w_seq ?_
  refine w_reg ?_
  refine wl_mv (.tmp 0) (pp x) (fun _ => rfl) rfl rfl ?_
  refine wl_call 30 [(.tmp 6)] _ [pp x] (.bool false) rfl rfl (fun _ _ => by kernel_rfl) (made_u (hU.mo M)) rfl ?_
  intro w2 hq
  replace Q1 := Q1.mo hq
  replace M := M.trans hq
  clear hq
  refine wl_un (fun v => Op.unary .not v) (.tmp 7) (.bool false) (.bool true) (fun _ => rfl) rfl (by kernel_rfl) rfl ?_
  refine w_nil ?_
  refine xn_then ?_
  refine w_condT rfl ?_
  refine w_seq ?_
  refine w_reg ?_
  refine wl_build 42 [] [] (.agg #[.int .i64 0, .int .i64 0, .int .i64 0, .int .i64 0, .int .i64 0, .int .u64 0, .int .u64 0, .int .u64 0, .int .u64 0, .int .u64 0, .bool false, .bool false, .int .u64 0, .int .u64 0, .int .u64 0, .int .u64 0, .int .i64 0, .bool false, .int .u64 0, .int .u64 0, .int .u64 0, .int .u64 0, .int .i64 0]) rfl rfl (by kernel_rfl) rfl ?_
  refine wl_st 42 (.tmp 4) (.tmp 9) k1 0 #[.int .i64 0, .int .i64 0, .int .i64 0, .int .i64 0, .int .i64 0, .int .u64 0, .int .u64 0, .int .u64 0, .int .u64 0, .int .u64 0, .bool false, .bool false, .int .u64 0, .int .u64 0, .int .u64 0, .int .u64 0, .int .i64 0, .bool false, .int .u64 0, .int .u64 0, .int .u64 0, .int .u64 0, .int .i64 0] [.int .i64 0, .int .i64 0, .int .i64 0, .int .i64 0, .int .i64 0, .int .u64 0, .int .u64 0, .int .u64 0, .int .u64 0, .int .u64 0, .bool false, .bool false, .int .u64 0, .int .u64 0, .int .u64 0, .int .u64 0, .int .i64 0, .bool false, .int .u64 0, .int .u64 0, .int .u64 0, .int .u64 0, .int .i64 0] [.int .i64 0, .int .i64 0, .int .i64 0, .int .i64 0, .int .i64 0, .int .u64 0, .int .u64 0, .int .u64 0, .int .u64 0, .int .u64 0, .bool false, .bool false, .int .u64 0, .int .u64 0, .int .u64 0, .int .u64 0, .int .i64 0, .bool false, .int .u64 0, .int .u64 0, .int .u64 0, .int .u64 0, .int .i64 0] Q1 rfl rfl rfl rfl rfl zs42 rfl rfl rfl ?_
  intro w3 hS Qn
  replace Q1 := Qn
  clear Qn
  replace M := hS.mo _ N_k1 M
  clear hS
  refine wl_mv (.const (.int .i64 (2))) (.int .i64 (2)) (fun _ => rfl) rfl rfl ?_
  refine w_nil ?_
  refine xn_then ?_
  refine w_ret ?_
  refine xr_then ?_
  exact w_ret2 _ _ (.agg #[.int .i64 0, .int .i64 0, .int .i64 0, .int .i64 0, .int .i64 0, .int .u64 0, .int .u64 0, .int .u64 0, .int .u64 0, .int .u64 0, .bool false, .bool false, .int .u64 0, .int .u64 0, .int .u64 0, .int .u64 0, .int .i64 0, .bool false, .int .u64 0, .int .u64 0, .int .u64 0, .int .u64 0, .int .i64 0]) (.int .i64 (2)) rfl ⟨k1, rfl, (run_row Q1 42 0 23 [.int .i64 0, .int .i64 0, .int .i64 0, .int .i64 0, .int .i64 0, .int .u64 0, .int .u64 0, .int .u64 0, .int .u64 0, .int .u64 0, .bool false, .bool false, .int .u64 0, .int .u64 0, .int .u64 0, .int .u64 0, .int .i64 0, .bool false, .int .u64 0, .int .u64 0, .int .u64 0, .int .u64 0, .int .i64 0] rfl Try.underlying42 rfl zs42)⟩ rfl ⟨rfl, M⟩
theorem query_u {x : Option Nat} (hU : UT w x) (cn fa ta : Int) : Calls Try.prog 11 #[pp x, .int .i64 (cn), .int .i64 (fa), .int .i64 (ta)] w fun e w' => e = .returned (.tuple #[smv sm0, .int .i64 2]) ∧ Mo w w' := by
  refine w_enter 43 Try.func11 Try.ntmps11 rfl rfl ?_
  have M : Mo w w := Mo.refl _
  refine w_seq ?_
  refine w_reg ?_
  refine wl_alloc 42 #[.int .i64 0, .int .i64 0, .int .i64 0, .int .i64 0, .int .i64 0, .int .u64 0, .int .u64 0, .int .u64 0, .int .u64 0, .int .u64 0, .bool false, .bool false, .int .u64 0, .int .u64 0, .int .u64 0, .int .u64 0, .int .i64 0, .bool false, .int .u64 0, .int .u64 0, .int .u64 0, .int .u64 0, .int .i64 0] rfl (fun _ => by kernel_rfl) rfl ?_
  intro k1 w1 hk hz hq Q1
  have N_k1 : w.heap.size ≤ k1 := by have := M.size; omega
  replace M := M.trans hq
  clear hk hz hq
  refine wl_mv (.const (.int .i64 (0))) (.int .i64 (0)) (fun _ => rfl) rfl rfl ?_
  refine w_nil ?_
  refine xn_then ?_
  refine w_seq ?_
  refine w_seq ?_
  refine w_reg ?_
  refine wl_mv (.tmp 0) (pp x) (fun _ => rfl) rfl rfl ?_
  refine wl_call 30 [(.tmp 10)] _ [pp x] (.bool false) rfl rfl (fun _ _ => by kernel_rfl) (made_u (hU.mo M)) rfl ?_
  intro w2 hq
  replace Q1 := Q1.mo hq
  replace M := M.trans hq
  clear hq
  refine wl_un (fun v => Op.unary .not v) (.tmp 11) (.bool false) (.bool true) (fun _ => rfl) rfl (by kernel_rfl) rfl ?_
  refine w_nil ?_
  refine xn_then ?_
  refine w_condT rfl ?_
  refine w_seq ?_
  refine w_reg ?_
  refine wl_build 42 [] [] (.agg #[.int .i64 0, .int .i64 0, .int .i64 0, .int .i64 0, .int .i64 0, .int .u64 0, .int .u64 0, .int .u64 0, .int .u64 0, .int .u64 0, .bool false, .bool false, .int .u64 0, .int .u64 0, .int .u64 0, .int .u64 0, .int .i64 0, .bool false, .int .u64 0, .int .u64 0, .int .u64 0, .int .u64 0, .int .i64 0]) rfl rfl (by kernel_rfl) rfl ?_
  refine wl_st 42 (.tmp 8) (.tmp 13) k1 0 #[.int .i64 0, .int .i64 0, .int .i64 0, .int .i64 0, .int .i64 0, .int .u64 0, .int .u64 0, .int .u64 0, .int .u64 0, .int .u64 0, .bool false, .bool false, .int .u64 0, .int .u64 0, .int .u64 0, .int .u64 0, .int .i64 0, .bool false, .int .u64 0, .int .u64 0, .int .u64 0, .int .u64 0, .int .i64 0] [.int .i64 0, .int .i64 0, .int .i64 0, .int .i64 0, .int .i64 0, .int .u64 0, .int .u64 0, .int .u64 0, .int .u64 0, .int .u64 0, .bool false, .bool false, .int .u64 0, .int .u64 0, .int .u64 0, .int .u64 0, .int .i64 0, .bool false, .int .u64 0, .int .u64 0, .int .u64 0, .int .u64 0, .int .i64 0] [.int .i64 0, .int .i64 0, .int .i64 0, .int .i64 0, .int .i64 0, .int .u64 0, .int .u64 0, .int .u64 0, .int .u64 0, .int .u64 0, .bool false, .bool false, .int .u64 0, .int .u64 0, .int .u64 0, .int .u64 0, .int .i64 0, .bool false, .int .u64 0, .int .u64 0, .int .u64 0, .int .u64 0, .int .i64 0] Q1 rfl rfl rfl rfl rfl zs42 rfl rfl rfl ?_
  intro w3 hS Qn
  replace Q1 := Qn
  clear Qn
  replace M := hS.mo _ N_k1 M
  clear hS
  refine wl_mv (.const (.int .i64 (2))) (.int .i64 (2)) (fun _ => rfl) rfl rfl ?_
  refine w_nil ?_
  refine xn_then ?_
  refine w_ret ?_
  refine xr_then ?_
  exact w_ret2 _ _ (.agg #[.int .i64 0, .int .i64 0, .int .i64 0, .int .i64 0, .int .i64 0, .int .u64 0, .int .u64 0, .int .u64 0, .int .u64 0, .int .u64 0, .bool false, .bool false, .int .u64 0, .int .u64 0, .int .u64 0, .int .u64 0, .int .i64 0, .bool false, .int .u64 0, .int .u64 0, .int .u64 0, .int .u64 0, .int .i64 0]) (.int .i64 (2)) rfl ⟨k1, rfl, (run_row Q1 42 0 23 [.int .i64 0, .int .i64 0, .int .i64 0, .int .i64 0, .int .i64 0, .int .u64 0, .int .u64 0, .int .u64 0, .int .u64 0, .int .u64 0, .bool false, .bool false, .int .u64 0, .int .u64 0, .int .u64 0, .int .u64 0, .int .i64 0, .bool false, .int .u64 0, .int .u64 0, .int .u64 0, .int .u64 0, .int .i64 0] rfl Try.underlying42 rfl zs42)⟩ rfl ⟨rfl, M⟩
theorem get_u {x : Option Nat} (hU : UT w x) (id cn : Int) : Calls Try.prog 23 #[pp x, .int .i64 (id), .int .i64 (cn)] w fun e w' => e = .returned (.tuple #[V10.v v0, .bool false]) ∧ Mo w w' := by
  refine w_enter 40 Try.func23 Try.ntmps23 rfl rfl ?_
  have M : Mo w w := Mo.refl _
  refine w_seq ?_
  refine w_reg ?_
  refine wl_alloc 55 #[.int .i64 0, .bool false, .int .u64 0, .int .u64 0, .int .u64 0, .int .u64 0, .int .i64 0, .bool false, .string ⟨#[]⟩, .int .i64 0] rfl (fun _ => by kernel_rfl) rfl ?_
  intro k1 w1 hk hz hq Q1
  have N_k1 : w.heap.size ≤ k1 := by have := M.size; omega
  replace M := M.trans hq
  clear hk hz hq
  refine wl_mv (.const (.bool false)) (.bool false) (fun _ => rfl) rfl rfl ?_
  refine w_nil ?_
  refine xn_then ?_
  refine w_seq ?_
  refine w_seq ?_
  refine w_reg ?_
  refine wl_mv (.tmp 0) (pp x) (fun _ => rfl) rfl rfl ?_
  refine wl_call 30 [(.tmp 9)] _ [pp x] (.bool false) rfl rfl (fun _ _ => by kernel_rfl) (made_u (hU.mo M)) rfl ?_
  intro w2 hq
  replace Q1 := Q1.mo hq
  replace M := M.trans hq
  clear hq
  refine wl_un (fun v => Op.unary .not v) (.tmp 10) (.bool false) (.bool true) (fun _ => rfl) rfl (by kernel_rfl) rfl ?_
  refine wl_mv (.tmp 11) (.bool true) (fun _ => rfl) rfl rfl ?_
  refine wl_skip rfl ?_
  refine wl_skip rfl ?_
  refine wl_skip rfl ?_
  refine wl_skip rfl ?_
  refine wl_pick (.tmp 12) (.const (.bool true)) (.tmp 16) true (.bool true) (fun _ => rfl) rfl rfl rfl ?_
  refine w_nil ?_
  refine xn_then ?_
  refine w_condT rfl ?_
  refine w_seq ?_
  refine w_reg ?_
  refine wl_build 55 [] [] (.agg #[.int .i64 0, .bool false, .int .u64 0, .int .u64 0, .int .u64 0, .int .u64 0, .int .i64 0, .bool false, .string ⟨#[]⟩, .int .i64 0]) rfl rfl (by kernel_rfl) rfl ?_
  refine wl_st 55 (.tmp 6) (.tmp 18) k1 0 #[.int .i64 0, .bool false, .int .u64 0, .int .u64 0, .int .u64 0, .int .u64 0, .int .i64 0, .bool false, .string ⟨#[]⟩, .int .i64 0] [.int .i64 0, .bool false, .int .u64 0, .int .u64 0, .int .u64 0, .int .u64 0, .int .i64 0, .bool false, .string ⟨#[]⟩, .int .i64 0] [.int .i64 0, .bool false, .int .u64 0, .int .u64 0, .int .u64 0, .int .u64 0, .int .i64 0, .bool false, .string ⟨#[]⟩, .int .i64 0] Q1 rfl rfl rfl rfl rfl zs55 rfl rfl rfl ?_
  intro w3 hS Qn
  replace Q1 := Qn
  clear Qn
  replace M := hS.mo _ N_k1 M
  clear hS
  refine wl_mv (.const (.bool false)) (.bool false) (fun _ => rfl) rfl rfl ?_
  refine w_nil ?_
  refine xn_then ?_
  refine w_ret ?_
  refine xr_then ?_
  exact w_ret2 _ _ (.agg #[.int .i64 0, .bool false, .int .u64 0, .int .u64 0, .int .u64 0, .int .u64 0, .int .i64 0, .bool false, .string ⟨#[]⟩, .int .i64 0]) (.bool false) rfl ⟨k1, rfl, (run_row Q1 55 0 10 [.int .i64 0, .bool false, .int .u64 0, .int .u64 0, .int .u64 0, .int .u64 0, .int .i64 0, .bool false, .string ⟨#[]⟩, .int .i64 0] rfl Try.underlying55 rfl zs55)⟩ rfl ⟨rfl, M⟩
theorem rows_u {x : Option Nat} (hU : UT w x)  : Calls Try.prog 41 #[pp x] w fun e w' => e = .returned (.slice none 0 0) ∧ Mo w w' := by
  refine R.calls_of (m := 9) (R.w_enter 30 Try.func41 Try.ntmps41 rfl rfl ?_)
  have M : Mo w w := Mo.refl _
  refine R.w_seq ?_
  refine R.w_reg ?_
  refine wl_mv (.const (.slice none 0 0)) (.slice none 0 0) (fun _ => rfl) rfl rfl ?_
  refine w_nil ?_
  refine R.xn_then ?_
  refine R.w_seq ?_
  refine R.w_seq ?_
  refine R.w_reg ?_
  refine wl_mv (.tmp 0) (pp x) (fun _ => rfl) rfl rfl ?_
  refine wl_call 30 [(.tmp 5)] _ [pp x] (.bool false) rfl rfl (fun _ _ => by kernel_rfl) (made_u (hU.mo M)) rfl ?_
  intro w1 hq
  replace M := M.trans hq
  clear hq
  refine wl_un (fun v => Op.unary .not v) (.tmp 6) (.bool false) (.bool true) (fun _ => rfl) rfl (by kernel_rfl) rfl ?_
  refine w_nil ?_
  refine R.xn_then ?_
  refine R.w_condT rfl ?_
  refine R.w_seq ?_
  refine R.w_reg ?_
  refine wl_mv (.const (.slice none 0 0)) (.slice none 0 0) (fun _ => rfl) rfl rfl ?_
  refine w_nil ?_
  refine R.xn_then ?_
  refine R.w_ret ?_
  refine R.xr_then ?_
  exact R.w_ret1 _ (.slice none 0 0) rfl rfl ⟨rfl, M⟩
theorem all_u {x : Option Nat} (hU : UT w x) : Calls Try.prog 21 #[pp x] w fun e w' => ∃ kb, e = .returned (.func (.func 42) #[] #[pt kb 0]) ∧ At w' kb [.slice none 0 0] ∧ w.heap.size ≤ kb ∧ Mo w w' := by
  refine w_enter 7 Try.func21 Try.ntmps21 rfl rfl ?_
  have M : Mo w w := Mo.refl _
  refine w_seq ?_
  refine w_reg ?_
  refine wl_mv (.const (Go.Value.nilFunc)) (.nilFunc) (fun _ => rfl) rfl rfl ?_
  refine w_nil ?_
  refine xn_then ?_
  refine w_seq ?_
  refine w_reg ?_
  refine wl_mv (.tmp 0) (pp x) (fun _ => rfl) rfl rfl ?_
  refine wl_call 41 [(.tmp 4)] _ [pp x] (.slice none 0 0) rfl rfl (fun _ _ => by kernel_rfl) (rows_u (hU.mo M)) rfl ?_
  intro w1 hq
  replace M := M.trans hq
  clear hq
  refine wl_alloc 95 #[.slice none 0 0] rfl (fun _ => by kernel_rfl) rfl ?_
  intro k1 w2 hk hz hq Q1
  have N_k1 : w.heap.size ≤ k1 := by have := M.size; omega
  replace M := M.trans hq
  clear hk hz hq
  refine wl_st1 95 (.tmp 3) (.tmp 5) k1 0 (.slice none 0 0) [.slice none 0 0] [.slice none 0 0] Q1 rfl rfl rfl rfl rfl zs95 rfl rfl rfl rfl ?_
  intro w3 hS Qn
  replace Q1 := Qn
  clear Qn
  replace M := hS.mo _ N_k1 M
  clear hS
  refine w_nil ?_
  refine xn_then ?_
  refine w_seq ?_
  refine w_reg ?_
  refine wl_val (.func (.func 42) #[] #[pt k1 0]) (mf2 42 _ _ _ (by exact rfl) _ _ _ _ _ _) rfl ?_
  refine wl_mv (.tmp 6) (.func (.func 42) #[] #[pt k1 0]) (fun _ => rfl) rfl rfl ?_
  refine w_nil ?_
  refine xn_then ?_
  refine w_ret ?_
  exact w_ret1 _ (.func (.func 42) #[] #[pt k1 0]) rfl rfl ⟨k1, rfl, Q1, N_k1, M⟩
end
end G
end Go.Proofs.Ythfemlhmnjfjiaa
/-
  AggtreeNone: what its walk needs.
-/
namespace Go.Proofs.Ythfemlhmnjfjiaa
open Go.RowKit
namespace G
theorem mk_grown {W W' : World} {row : Option Nat} (hg : W.grownBy W' row) (hf : ∀ a, W'.frozen? a = W.frozen? a) : Mk (fun j => row = some j) W W' :=
  ⟨hg.os, hg.tape, hg.output, hg.size, fun k hk hn => hg.block k hk (fun e => hn e.symm), hf⟩
theorem FT.kept {D E : Nat → Prop} {w w' : World} {t : Nat} {mb : Hd} {tr : T} {lk : Int} (h : FT D w t mb tr lk) (m : Mk E w w') (hE : ∀ j, D j → ¬ E j) (hs : ∀ b, ob mb.h = some b → ¬ E b) (hm : ¬ E mb.m) : FT D w' t mb tr lk := by
  obtain ⟨R, root, hS, hAp, hC, hR, hn⟩ := h.ts
  exact ⟨⟨R, root, hS.kept m hE hs, hAp, hC, hR, hn⟩, h.om.mk m hm, h.ok, h.nd, h.rg, h.le, h.l0, h.hm⟩
/-- A tree all of whose blocks lie below a bound. -/
def FB (B n0 : Nat) (ks : List Nat) (D : Nat → Prop) (mb : Hd) : Prop := (∀ j, D j ∨ j = mb.m ∨ ob mb.h = some j → j < B ∧ Wr n0 ks j)
theorem GT.open {n0 : Nat} {ks : List Nat} {w : World} {t : Nat} {mb : Hd} {tr : T} {lk : Int} (h : GT n0 ks w t mb tr lk) : ∃ D, FT D w t mb tr lk ∧ FB w.heap.size n0 ks D mb := by
  obtain ⟨h1, h2, h5, D, h3, h4⟩ := h
  refine ⟨D, h3, fun j hj => ?_⟩
  obtain ⟨R, root, hS, _⟩ := h3.ts
  rcases hj with hj | rfl | hj
  · exact ⟨hS.lt hj, h4 j (Or.inl hj)⟩
  · exact ⟨h3.om.lt, h4 _ (Or.inr rfl)⟩
  · exact ⟨hS.sc.lt hj, h5 j hj⟩
theorem FB.close {B n0 : Nat} {ks : List Nat} {D : Nat → Prop} {w : World} {t : Nat} {mb : Hd} {tr : T} {lk : Int} (b : FB B n0 ks D mb) (h : FT D w t mb tr lk) (h1 : n0 ≤ w.heap.size) (h2 : ∀ k ∈ ks, k < w.heap.size) {Dk : Nat} (hB : B ≤ Dk) (hD : Dk < w.heap.size) : GT n0 (Dk :: ks) w t mb tr lk := by
  have key : ∀ j, D j ∨ j = mb.m ∨ ob mb.h = some j → Wr n0 (Dk :: ks) j := fun j hj => ⟨(b j hj).2.1, fun q => by
    rcases List.mem_cons.1 q with e | q
    · have := (b j hj).1; omega
    · exact (b j hj).2.2 q⟩
  exact ⟨h1, fun k e => by rcases List.mem_cons.1 e with rfl | e; exact hD; exact h2 k e, fun j hj => key j (Or.inr (Or.inr hj)), D, h, fun j hj => key j (by rcases hj with hj | hj; exact Or.inl hj; exact Or.inr (Or.inl hj))⟩
theorem FB.own {B n0 : Nat} {ks : List Nat} {D : Nat → Prop} {t : Nat} {mb : Hd} {tr : T} {lk : Int} {β : Type} (b : FB B n0 ks D mb) : R.OwnF (β := β) B (fun _ W => FT D W t mb tr lk) := fun _ W W' row h hg hf hr =>
  h.kept (mk_grown hg hf) (fun j hj e => by have := (b j (Or.inl hj)).1; have := (hr j e).1; omega) (fun j hj e => by have := (b j (Or.inr (Or.inr hj))).1; have := (hr j e).1; omega) (fun e => by have := (b _ (Or.inr (Or.inl rfl))).1; have := (hr _ e).1; omega)
theorem all_g {n0 : Nat} {ks : List Nat} {w : World} {t : Nat} {mb : Hd} {tr : T} {lk : Int} (h : GT n0 ks w t mb tr lk) : Calls Try.prog 21 #[pt t 0] w fun e w' => ∃ (kb : Nat) (p : Option Addr) (cap : Nat) (Z : List (Py × Value)), e = .returned (.func (.func 42) #[] #[pt kb 0]) ∧ At w' kb [.slice p Z.length cap] ∧ Z.map (·.1) = tr.ids ∧ RA w' p Z ∧ RV w' Z ∧ (∀ k, pb p k → w.heap.size ≤ k ∧ k < w'.heap.size) ∧ (∀ z ∈ Z, ∀ b, ob z.2 = some b → w.heap.size ≤ b ∧ b < w'.heap.size) ∧ w.heap.size ≤ kb ∧ Mo w w' := by
  obtain ⟨_, _, _, D, hF, _⟩ := h
  exact all_n hF
theorem dk_wr {n0 : Nat} {ks : List Nat} {w w' : World} {Dk : Nat} {o : Obj} (h : w.heap[Dk]? = some o) (m : Mk (Wr n0 ks) w w') (hk : Dk ∈ ks) : w'.heap[Dk]? = some o :=
  (m.block Dk (Array.getElem?_eq_some_iff.1 h).1 (fun e => e.2 hk)).trans h
theorem bs69 (k : Nat) (w : World) : (Instr.buildSlice 69 2 #[(0, .pointer none), (1, pt k 0)]).run Try.prog w = .ok (.slice (some ⟨w.heap.size, 0, none⟩) 2 2) (w.alloc (.cells #[.pointer none, pt k 0] 24)) := by kernel_rfl
theorem len69 (ρ : Operand → Value) (x : Operand) (p : Option Addr) (m c : Nat) (hx : ρ x = .slice p m c) (dst : Option Tmp) (type : TypeId) (pos : String) (after : Array Edge) (guard : Option (Nat × Bool)) (w : World) : (execOp ρ { dst, op := .call { callee := .builtin .len, args := #[x], argTypes := #[69] }, type, pos, after, guard }).run Try.prog w = .ok (.value (.int .i64 (m : Int))) w := by
  simp [go_sem, hx]
theorem ix69 (g j n c : Nat) (h : j < n) (w : World) : (Instr.indexAt 69 (.slice (some ⟨g, 0, none⟩) n c) (.int .i64 (j : Int))).run Try.prog w = .ok (pt g j) w := by
  have e : (Instr.indexAt 69 (.slice (some ⟨g, 0, none⟩) n c) (.int .i64 (j : Int))).run Try.prog w = .ok (.pointer (some ((⟨g, 0, none⟩ : Addr).add (j * 1)))) w := by simp [go_sem, h]
  rw [e, Addr.add_mid, Nat.mul_one, Nat.zero_add]
theorem nilp (x y : Operand) (w : World) : (do eqGuard .neq 24 x y (pp none) (.pointer none); binOp .neq 24 (pp none) (.pointer none)).run Try.prog w = .ok (.bool false) w := by kernel_rfl
theorem bs22b (a b : Int) (w : World) : (Instr.buildSlice 22 2 #[(0, .int .i64 a), (1, .int .i64 b)]).run Try.prog w = .ok (.slice (some ⟨w.heap.size, 0, none⟩) 2 2) (w.alloc (.cells #[.int .i64 a, .int .i64 b] 3)) := by kernel_rfl
theorem bs29b (x y : V10) (w : World) : (Instr.buildSlice 29 2 #[(0, x.v), (1, y.v)]).run Try.prog w = .ok (.slice (some ⟨w.heap.size, 0, none⟩) 2 2) (w.alloc (.cells (x.cells ++ y.cells).toArray 55)) := by kernel_rfl
section
variable {o : Oper} {n : Nat} {l : List (Nat × Value)} {w : World} {ops : Array Oper} {rest : List Oper} {Q : Exit → Act → World → Prop}
theorem wl_bs69 (x y : Operand) (k : Nat) (ho : o.op = .buildSlice 69 2 #[(0, x), (1, y)]) (hx : evl n l x = .pointer none) (hy : evl n l y = pt k 0) (hg : wnt n l ops o = true)
    (hk : ∀ g w', w.heap.size = g → w'.heap.size = g + 1 → Mo w w' → At w' g [pp none, pt k 0] → WL Try.prog ops Q rest n (ext l o.dst (.slice (some ⟨g, 0, none⟩) 2 2)) w') : WL Try.prog ops Q (o :: rest) n l w :=
  ⟨l_step hg (o_val (.slice (some ⟨w.heap.size, 0, none⟩) 2 2) (w' := w.alloc (.cells #[.pointer none, pt k 0] 24)) (by
    have h := bs69 k w
    simp [execOp, ho, hx, hy, h]) (hk _ _ rfl (by simp) ((Mo.refl _).alloc _ _) (At.new w #[.pointer none, pt k 0] 24)).out)⟩
theorem wl_bs22_2 (x y : Operand) (a b : Int) (ho : o.op = .buildSlice 22 2 #[(0, x), (1, y)]) (hx : evl n l x = .int .i64 a) (hy : evl n l y = .int .i64 b) (hg : wnt n l ops o = true)
    (hk : ∀ k w', w.heap.size = k → w'.heap.size = k + 1 → Mo w w' → At w' k [.int .i64 a, .int .i64 b] → WL Try.prog ops Q rest n (ext l o.dst (.slice (some ⟨k, 0, none⟩) 2 2)) w') : WL Try.prog ops Q (o :: rest) n l w :=
  ⟨l_step hg (o_val (.slice (some ⟨w.heap.size, 0, none⟩) 2 2) (w' := w.alloc (.cells #[.int .i64 a, .int .i64 b] 3)) (by
    have h := bs22b a b w
    simp only [execOp, ho, List.map_toArray, List.map_cons, List.map_nil, hx, hy, Sem.run_bind, h, Result.andThen_ok]
    simp) (hk _ _ rfl (by simp) ((Mo.refl _).alloc _ _) (At.new w _ 3)).out)⟩
theorem wl_bs29_2 (x y : Operand) (a b : V10) (ho : o.op = .buildSlice 29 2 #[(0, x), (1, y)]) (hx : evl n l x = a.v) (hy : evl n l y = b.v) (hg : wnt n l ops o = true)
    (hk : ∀ k w', w.heap.size = k → w'.heap.size = k + 1 → Mo w w' → At w' k (a.cells ++ b.cells) → WL Try.prog ops Q rest n (ext l o.dst (.slice (some ⟨k, 0, none⟩) 2 2)) w') : WL Try.prog ops Q (o :: rest) n l w :=
  ⟨l_step hg (o_val (.slice (some ⟨w.heap.size, 0, none⟩) 2 2) (w' := w.alloc (.cells (a.cells ++ b.cells).toArray 55)) (by
    have h := bs29b a b w
    simp only [execOp, ho, List.map_toArray, List.map_cons, List.map_nil, hx, hy, Sem.run_bind, h, Result.andThen_ok]
    simp) (hk _ _ rfl (by simp) ((Mo.refl _).alloc _ _) (At.new w _ 55)).out)⟩
end
theorem sn_two {w : World} {k : Nat} {x y : Int} (h : At w k [.int .i64 x, .int .i64 y]) : SN w (some ⟨k, 0, none⟩) [x, y] := fun i z e => by
  match i, e with
  | 0, e =>
    cases e
    refine ⟨k, 0, rfl, h.2.2, fun j v hv => ?_⟩
    match j, hv with
    | 0, hv => cases hv; exact h.1 0 _ rfl
    | j + 1, hv => simp at hv
  | 1, e =>
    cases e
    refine ⟨k, 0, rfl, h.2.2, fun j v hv => ?_⟩
    match j, hv with
    | 0, hv => cases hv; exact h.1 1 _ rfl
    | j + 1, hv => simp at hv
  | i + 2, e => simp at e
theorem svv_two {w : World} {k : Nat} {x y : V10} (h : At w k (x.cells ++ y.cells)) : SVv w (some ⟨k, 0, none⟩) [x, y] := fun i z e => by
  match i, e with
  | 0, e =>
    cases e
    refine ⟨k, 0, rfl, h.2.2, fun j v hv => ?_⟩
    have hj : j < 10 := (List.getElem?_eq_some_iff.1 hv).1
    have := h.1 j v (by rw [List.getElem?_append_left (by show j < 10; omega)]; exact hv)
    rw [show 0 + 0 * 10 + j = 0 + j by omega]; exact this
  | 1, e =>
    cases e
    refine ⟨k, 0, rfl, h.2.2, fun j v hv => ?_⟩
    have hj : j < 10 := (List.getElem?_eq_some_iff.1 hv).1
    have := h.1 (10 + j) v (by rw [List.getElem?_append_right (by show 10 ≤ 10 + j; omega), show 10 + j - x.cells.length = j from by show 10 + j - 10 = j; omega]; exact hv)
    rw [show 0 + 1 * 10 + j = 0 + (10 + j) by omega]; exact this
  | i + 2, e => simp at e
def y1 : V10 := ⟨1, ⟨false, 1, 0⟩, false, ⟨#[]⟩, 0⟩
def y2 : V10 := ⟨1, ⟨false, 2, 2⟩, false, ⟨#[]⟩, 0⟩
def y9 : V10 := ⟨1, ⟨false, 9, 0⟩, false, ⟨#[]⟩, 0⟩
def z9 : V10 := ⟨1, ⟨false, 9, 2⟩, false, ⟨#[]⟩, 0⟩
theorem y1_ok : y1.n.ok := ⟨by decide, by unfold y1 MM; decide⟩
theorem y2_ok : y2.n.ok := ⟨by decide, by unfold y2 MM; decide⟩
theorem R.keeps_mk2 {B : Nat} {D : Nat → Prop} {W W' : World} (h : Mk D W W') (hD : ∀ k, D k → ∃ o v, W.cell? ⟨k, o, none⟩ = some v) : KeepsFrom B W W' :=
  ⟨h.size, fun k o _ hk ho => (h.block k (Array.getElem?_eq_some_iff.1 hk).1 (fun e => by
    obtain ⟨_, v, hv⟩ := hD k e
    obtain ⟨o', ho', hc⟩ := cells_of_cell hv
    have : o = o' := by have := hk.symm.trans ho'; cases this; rfl
    subst this
    rw [ho] at hc; cases hc)).trans hk⟩
end G
end Go.Proofs.Ythfemlhmnjfjiaa
/-
  AggtreeNone: the law's walk.
-/
namespace Go.Proofs.Ythfemlhmnjfjiaa
open Go.RowKit
namespace G
namespace R
section
variable {w : World}
theorem empty_u {x : Option Nat} (hU : UT w x) : Calls Try.prog 27 #[pp x] w fun e w' => e = .returned (.bool true) ∧ Mo w w' := by
  refine calls_of (m := 9) (w_enter 7 Try.func27 Try.ntmps27 rfl rfl ?_)
  have M : Mo w w := Mo.refl _
  refine w_seq ?_
  refine w_reg ?_
  refine wl_alloc 4 #[.bool false] rfl (fun _ => by kernel_rfl) rfl ?_
  intro k1 w1 hk hz hq Q1
  have N_k1 : w.heap.size ≤ k1 := by have := M.size; omega
  replace M := M.trans hq
  clear hk hz hq
  refine w_nil ?_
  refine xn_then ?_
  refine w_seq ?_
  refine w_seq ?_
  refine w_reg ?_
  refine wl_mv (.tmp 0) (pp x) (fun _ => rfl) rfl rfl ?_
  refine wl_callx 21 [(.tmp 3)] _ [pp x] rfl rfl (fun _ _ => by kernel_rfl) (all_u (hU.mo M)) rfl ?_
  rintro _ w2 ⟨kb, rfl, QB, hkb, hq⟩
  refine ⟨_, rfl, ?_⟩
  replace Q1 := Q1.mo hq
  replace M := M.trans hq
  clear hq
  refine w_nil ?_
  refine xn_then ?_
  refine w_block ?_
  have hNR : w.heap.size ≤ w2.heap.size := M.size
  refine w_rg 42 #[] #[pt kb 0] rfl (fun _ _ => by kernel_rfl) (fun x : Py × Value => #[.int .i64 x.1.i, x.2]) (TZ w2 []) tz_own (fun a b => Kd (KZ none []) a b ∧ a.heap.size ≤ b.heap.size) (fun xs => xs.map (·.1) = ([] : List (Py × Value)).map (·.1)) (fun pre => ∃ i : Nat, 0 < i ∧ i ≤ ([] : List (Py × Value)).length ∧ pre.map (·.1) = (([] : List (Py × Value)).take i).map (·.1)) ([] : List (Py × Value)).length (all1_seq (p := none) (cap := 0) (Z := []) QB (fun _ _ e => by cases e) (fun _ e => by cases e) (by decide) (fun _ e => by cases e)) (fun h k => ⟨Kd.tr h.1 k.1, Nat.le_trans h.2 k.2⟩) (fun W l o o' hl _ _ _ => ⟨fun k hk => (by rcases hk with ⟨_, e⟩ | ⟨_, e, _⟩ <;> cases e), by simp⟩) (fun _ => rfl) (fun (_ : List (Py × Value)) W => At W k1 [.bool false] ∧ Mo w W) (fun _ _ _ => False) ?hI (fun _ _ _ _ _ h _ _ _ => h) ⟨Q1, M⟩ _ ?lx (fun x => frps2 5 6 _ _) ?assign (fun _ _ _ _ _ _ h => absurd h (Nat.not_lt_zero _)) ?done (fun _ _ _ _ _ _ h _ => h.elim)
  case hI => exact (OwnF.at (f := fun _ => _) (g := fun _ => [])).and (own_moF hNR)
  case assign =>
    intro lp x W K hK
    refine w_skip ?_
    exact hK
  case done =>
    rintro D xs W hD _ ⟨Q1, M⟩ hK
    replace hD := Nat.le_trans hNR hD
    have ne_D : D ≠ k1 := dk_ne hK rfl Q1
    refine xn_blk ?_
    refine xn_then ?_
    refine w_seq ?_
    refine w_reg ?_
    refine wl_st1x 4 (.tmp 2) (.const (.bool true)) k1 0 (.bool true) [.bool false] [.bool true] Q1 rfl rfl rfl rfl rfl zs4 rfl rfl rfl rfl ?_
    intro w41 hT Qn
    replace Q1 := Qn
    clear Qn
    replace hK := dk_st hK hT ne_D
    replace M := (Mk.refl (fun j => j = k1) _ |>.st hT rfl).mo M (fun _ e => e ▸ N_k1)
    clear hT
    refine w_nil ?_
    refine xn_then ?_
    refine w_ret ?_
    have QZ := At.grown Q1 (grownBy_putObj' _ D (.deferred none)) (fun r e => by cases e; exact ⟨_, hK, rfl⟩)
    exact w_ret1m D _ (.bool true) rfl hK ⟨k1, rfl, run_one QZ 4 0 rfl Try.underlying4 rfl⟩ ⟨rfl, Mo.putO M hD hK rfl rfl⟩
set_option maxHeartbeats 4000000 in
theorem none_n (o : Op6) (_hok : o.ok) (_hSV : SVv w o.p o.vs) : Calls Try.prog 6 #[o.v] w fun e w' => e = .returned (.bool true) ∧ Mo w w' := by
  refine calls_of (m := 9) (w_enter 218 Try.func6 Try.ntmps6 rfl rfl ?_)
  have M : Mo w w := Mo.refl _
  refine w_seq ?_
  refine w_reg ?_
  refine wl_box 31 (.tmp 0) (.agg #[.int .i64 (o.d), .int .i64 (o.a), .int .i64 (o.i), .slice o.p o.vs.length o.cap, .int .i64 (o.c), .int .i64 (o.f), .int .i64 (o.e)]) (#[.int .i64 (o.d), .int .i64 (o.a), .int .i64 (o.i), .slice o.p o.vs.length o.cap, .int .i64 (o.c), .int .i64 (o.f), .int .i64 (o.e)]) rfl rfl (fun _ => by kernel_rfl) rfl ?_
  intro k1 w1 hk hz hq Q1
  have N_k1 : w.heap.size ≤ k1 := by have := M.size; omega
  replace M := M.trans hq
  clear hk hz hq
  refine wl_alloc 4 #[.bool false] rfl (fun _ => by kernel_rfl) rfl ?_
  intro k2 w2 hk hz hq Q2
  have ne_k1_k2 : k1 ≠ k2 := by have := Q1.lt; omega
  have N_k2 : w.heap.size ≤ k2 := by have := M.size; omega
  replace Q1 := Q1.mo hq
  replace M := M.trans hq
  clear hk hz hq
  refine w_nil ?_
  refine xn_then ?_
  refine w_seq ?_
  refine w_seq ?_
  refine w_reg ?_
  refine wl_call 8 [] _ [] (.bool true) rfl rfl (fun _ _ => by kernel_rfl) (begun_n _) rfl ?_
  intro w3 hq
  replace Q1 := Q1.mo hq
  replace Q2 := Q2.mo hq
  replace M := M.trans hq
  clear hq
  refine wl_un (fun v => Op.unary .not v) (.tmp 29) (.bool true) (.bool false) (fun _ => rfl) rfl (by kernel_rfl) rfl ?_
  refine w_nil ?_
  refine xn_then ?_
  refine w_condF rfl ?_
  refine w_skip ?_
  refine xn_then ?_
  refine w_seq ?_
  refine w_seq ?_
  refine w_reg ?_
  refine wl_build 68 [] [] (.agg #[.slice none 0 0, .pointer none, .map none, .int .i64 0]) rfl rfl (by kernel_rfl) rfl ?_
  refine wl_box 68 (.tmp 31) (.agg #[.slice none 0 0, .pointer none, .map none, .int .i64 0]) (#[.slice none 0 0, .pointer none, .map none, .int .i64 0]) rfl rfl (fun _ => by kernel_rfl) rfl ?_
  intro k3 w4 hk hz hq Q3
  have ne_k1_k3 : k1 ≠ k3 := by have := Q1.lt; omega
  have ne_k2_k3 : k2 ≠ k3 := by have := Q2.lt; omega
  have N_k3 : w.heap.size ≤ k3 := by have := M.size; omega
  replace Q1 := Q1.mo hq
  replace Q2 := Q2.mo hq
  replace M := M.trans hq
  clear hk hz hq
  refine wl_bs69 (.const (.pointer none)) (.tmp 32) k3 rfl rfl rfl rfl ?_
  intro ks w5 hk hz hq Q4
  replace Q1 := Q1.mo hq
  replace Q2 := Q2.mo hq
  replace Q3 := Q3.mo hq
  replace M := M.trans hq
  clear hk hz hq
  refine wl_val (.int .i64 (2)) (len69 _ _ _ _ _ (by exact rfl) _ _ _ _ _ _) rfl ?_
  refine wl_mv (.const (.int .i64 (0))) (.int .i64 (0)) (fun _ => rfl) rfl rfl ?_
  refine w_nil ?_
  refine xn_then ?_
  refine w_block ?_
  refine w_loop (fun m l wc => ∃ i : Nat, m + i = 2 ∧ look l 1 = pt k1 0 ∧ look l 2 = pt k2 0 ∧ look l 33 = .slice (some ⟨ks, 0, none⟩) 2 2 ∧ look l 34 = .int .i64 (2) ∧ look l 35 = .int .i64 ((i : Nat) : Int) ∧ At wc k1 [.int .i64 (o.d), .int .i64 (o.a), .int .i64 (o.i), .slice o.p o.vs.length o.cap, .int .i64 (o.c), .int .i64 (o.f), .int .i64 (o.e)] ∧ At wc k2 [.bool false] ∧ At wc k3 [.slice none 0 0, .pointer none, .map none, .int .i64 0] ∧ At wc ks [pp none, pt k3 0] ∧ Mo w wc) 2 ⟨0, rfl, rfl, rfl, rfl, rfl, rfl, Q1, Q2, Q3, Q4, M⟩ ?_
  clear M Q1 Q2 Q3 Q4
  rintro m l wc ⟨i, hm, g1, g2, g33, g34, g35, Q1, Q2, Q3, Q4, M⟩
  have M0 := M
  clear M
  have M : Mo wc wc := Mo.refl _
  obtain ⟨x9, hv9, hU⟩ : ∃ x9, (i < 2 → ([pp none, pt k3 0] : List Value)[i]? = some (pp x9)) ∧ UT wc x9 := by
    match i with
    | 0 => exact ⟨none, fun _ => rfl, trivial⟩
    | 1 => exact ⟨some k3, fun _ => rfl, Q3⟩
    | j + 2 => exact ⟨none, fun h => absurd h (by omega), trivial⟩
  refine w_seq ?_
  cases hf0 : decide (i < 2) with
  | true =>
    have hf0p := of_decide_eq_true hf0
    refine w_reg ?_
    refine wl_bin (fun x y => do eqGuard .lss 3 (.tmp 35) (.tmp 34) x y; binOp .lss 3 x y) (.tmp 35) (.tmp 34) (.int .i64 ((i : Nat) : Int)) (.int .i64 (2)) (.bool true) (fun _ => rfl) g35 g34 (ltN hf0 _ _ _) rfl ?_
    refine w_nil ?_
    refine xn_then ?_
    refine w_seq ?_
    refine w_condT rfl ?_
    refine w_skip ?_
    refine xn_then ?_
    refine w_seq ?_
    refine w_block ?_
    refine w_seq ?_
    refine w_reg ?_
    refine wl_bin (fun x y => Instr.indexAt 69 x y) (.tmp 33) (.tmp 35) (.slice (some ⟨ks, 0, none⟩) 2 2) (.int .i64 ((i : Nat) : Int)) (pt ks i) (fun _ => rfl) g33 g35 (ix69 ks i 2 2 (by omega) _) rfl ?_
    refine wl_load 24 (.tmp 37) (pt ks i) (pp x9) rfl rfl (run_one Q4 24 i (hv9 (by omega)) Try.underlying24 rfl) rfl ?_
    refine wl_mv (.tmp 38) (pp x9) (fun _ => rfl) rfl rfl ?_
    refine w_nil ?_
    refine xn_then ?_
    refine w_seq ?_
    refine w_reg ?_
    refine wl_mv (.tmp 4) (pp x9) (fun _ => rfl) rfl rfl ?_
    refine wl_un (fun v => Instr.fieldAt 31 v 2) (.tmp 1) (pt k1 0) (pt k1 2) (fun _ => rfl) g1 (by kernel_rfl) rfl ?_
    refine wl_load 2 (.tmp 41) (pt k1 2) (.int .i64 (o.i)) rfl rfl (run_one Q1 2 2 rfl Try.underlying2 rfl) rfl ?_
    refine wl_call 15 [(.tmp 40), (.tmp 42)] _ [pp x9, .int .i64 (o.i)] (.tuple #[.int .i64 (0), .int .i64 (2)]) rfl rfl (fun _ _ => by kernel_rfl) (delete_u (hU.mo M) (o.i)) rfl ?_
    intro w11 hq
    replace Q1 := Q1.mo hq
    replace Q2 := Q2.mo hq
    replace Q3 := Q3.mo hq
    replace Q4 := Q4.mo hq
    replace M := M.trans hq
    clear hq
    refine wl_mv (.tmp 43) (.tuple #[.int .i64 (0), .int .i64 (2)]) (fun _ => rfl) rfl rfl ?_
    refine wl_un (fun v => Instr.extract v 0) (.tmp 39) (.tuple #[.int .i64 (0), .int .i64 (2)]) (.int .i64 (0)) (fun _ => rfl) rfl (by kernel_rfl) rfl ?_
    refine wl_un (fun v => Instr.extract v 1) (.tmp 39) (.tuple #[.int .i64 (0), .int .i64 (2)]) (.int .i64 (2)) (fun _ => rfl) rfl (by kernel_rfl) rfl ?_
    refine wl_mv (.tmp 44) (.int .i64 (0)) (fun _ => rfl) rfl rfl ?_
    refine wl_mv (.tmp 45) (.int .i64 (2)) (fun _ => rfl) rfl rfl ?_
    refine w_nil ?_
    refine xn_then ?_
    refine w_seq ?_
    refine w_reg ?_
    refine wl_mv (.tmp 4) (pp x9) (fun _ => rfl) rfl rfl ?_
    refine wl_un (fun v => Instr.fieldAt 31 v 2) (.tmp 1) (pt k1 0) (pt k1 2) (fun _ => rfl) g1 (by kernel_rfl) rfl ?_
    refine wl_load 2 (.tmp 48) (pt k1 2) (.int .i64 (o.i)) rfl rfl (run_one Q1 2 2 rfl Try.underlying2 rfl) rfl ?_
    refine wl_un (fun v => Instr.fieldAt 31 v 1) (.tmp 1) (pt k1 0) (pt k1 1) (fun _ => rfl) g1 (by kernel_rfl) rfl ?_
    refine wl_load 3 (.tmp 50) (pt k1 1) (.int .i64 (o.a)) rfl rfl (run_one Q1 3 1 rfl Try.underlying3 rfl) rfl ?_
    refine wl_call 16 [(.tmp 47), (.tmp 49), (.tmp 51)] _ [pp x9, .int .i64 (o.i), .int .i64 (o.a)] (.tuple #[.int .i64 (0), .int .i64 (2)]) rfl rfl (fun _ _ => by kernel_rfl) (move_u (hU.mo M) (o.i) (o.a)) rfl ?_
    intro w12 hq
    replace Q1 := Q1.mo hq
    replace Q2 := Q2.mo hq
    replace Q3 := Q3.mo hq
    replace Q4 := Q4.mo hq
    replace M := M.trans hq
    clear hq
    refine wl_mv (.tmp 52) (.tuple #[.int .i64 (0), .int .i64 (2)]) (fun _ => rfl) rfl rfl ?_
    refine wl_un (fun v => Instr.extract v 0) (.tmp 46) (.tuple #[.int .i64 (0), .int .i64 (2)]) (.int .i64 (0)) (fun _ => rfl) rfl (by kernel_rfl) rfl ?_
    refine wl_un (fun v => Instr.extract v 1) (.tmp 46) (.tuple #[.int .i64 (0), .int .i64 (2)]) (.int .i64 (2)) (fun _ => rfl) rfl (by kernel_rfl) rfl ?_
    refine wl_mv (.tmp 53) (.int .i64 (0)) (fun _ => rfl) rfl rfl ?_
    refine wl_mv (.tmp 54) (.int .i64 (2)) (fun _ => rfl) rfl rfl ?_
    refine w_nil ?_
    refine xn_then ?_
    refine w_seq ?_
    refine w_reg ?_
    refine wl_mv (.tmp 4) (pp x9) (fun _ => rfl) rfl rfl ?_
    refine wl_call 12 [(.tmp 56), (.const (.int .i64 (0)))] _ [pp x9, .int .i64 (0)] (.tuple #[smv sm0, .int .i64 (2)]) rfl rfl (fun _ _ => by kernel_rfl) (sum_u (hU.mo M) 0) rfl ?_
    intro w13 hq
    replace Q1 := Q1.mo hq
    replace Q2 := Q2.mo hq
    replace Q3 := Q3.mo hq
    replace Q4 := Q4.mo hq
    replace M := M.trans hq
    clear hq
    refine wl_mv (.tmp 57) (.tuple #[smv sm0, .int .i64 (2)]) (fun _ => rfl) rfl rfl ?_
    refine wl_un (fun v => Instr.extract v 0) (.tmp 55) (.tuple #[smv sm0, .int .i64 (2)]) (smv sm0) (fun _ => rfl) rfl (by kernel_rfl) rfl ?_
    refine wl_un (fun v => Instr.extract v 1) (.tmp 55) (.tuple #[smv sm0, .int .i64 (2)]) (.int .i64 (2)) (fun _ => rfl) rfl (by kernel_rfl) rfl ?_
    refine wl_alloc 42 #[.int .i64 0, .int .i64 0, .int .i64 0, .int .i64 0, .int .i64 0, .int .u64 0, .int .u64 0, .int .u64 0, .int .u64 0, .int .u64 0, .bool false, .bool false, .int .u64 0, .int .u64 0, .int .u64 0, .int .u64 0, .int .i64 0, .bool false, .int .u64 0, .int .u64 0, .int .u64 0, .int .u64 0, .int .i64 0] rfl (fun _ => by kernel_rfl) rfl ?_
    intro k11 w14 hk hz hq Q11
    have ne_k1_k11 : k1 ≠ k11 := by have := Q1.lt; omega
    have ne_k2_k11 : k2 ≠ k11 := by have := Q2.lt; omega
    have ne_k3_k11 : k3 ≠ k11 := by have := Q3.lt; omega
    have ne_ks_k11 : ks ≠ k11 := by have := Q4.lt; omega
    have N_k11 : wc.heap.size ≤ k11 := by have := M.size; omega
    replace Q1 := Q1.mo hq
    replace Q2 := Q2.mo hq
    replace Q3 := Q3.mo hq
    replace Q4 := Q4.mo hq
    replace M := M.trans hq
    clear hk hz hq
    refine wl_stx2 42 (.tmp 9) (.tmp 58) k11 0 ((sml sm0).toArray) [.int .i64 0, .int .i64 0, .int .i64 0, .int .i64 0, .int .i64 0, .int .u64 0, .int .u64 0, .int .u64 0, .int .u64 0, .int .u64 0, .bool false, .bool false, .int .u64 0, .int .u64 0, .int .u64 0, .int .u64 0, .int .i64 0, .bool false, .int .u64 0, .int .u64 0, .int .u64 0, .int .u64 0, .int .i64 0] (sml sm0) Q11 rfl rfl rfl rfl rfl zs42 rfl rfl rfl ?_
    intro w15 hT Qn
    replace Q11 := Qn
    clear Qn
    replace Q1 := hT.other _ _ ne_k1_k11 Q1
    replace Q2 := hT.other _ _ ne_k2_k11 Q2
    replace Q3 := hT.other _ _ ne_k3_k11 Q3
    replace Q4 := hT.other _ _ ne_ks_k11 Q4
    replace M := (Mk.refl (fun j => j = k11) _ |>.st hT rfl).mo M (fun _ e => e ▸ N_k11)
    clear hT
    refine wl_mv (.tmp 59) (.int .i64 (2)) (fun _ => rfl) rfl rfl ?_
    refine w_nil ?_
    refine xn_then ?_
    refine w_seq ?_
    refine w_reg ?_
    refine wl_mv (.tmp 4) (pp x9) (fun _ => rfl) rfl rfl ?_
    refine wl_call 11 [(.tmp 61), (.const (.int .i64 (0))), (.const (.int .i64 (0))), (.const (.int .i64 (0)))] _ [pp x9, .int .i64 (0), .int .i64 (0), .int .i64 (0)] (.tuple #[smv sm0, .int .i64 (2)]) rfl rfl (fun _ _ => by kernel_rfl) (query_u (hU.mo M) 0 0 0) rfl ?_
    intro w16 hq
    replace Q1 := Q1.mo hq
    replace Q2 := Q2.mo hq
    replace Q3 := Q3.mo hq
    replace Q4 := Q4.mo hq
    replace Q11 := Q11.mo hq
    replace M := M.trans hq
    clear hq
    refine wl_mv (.tmp 62) (.tuple #[smv sm0, .int .i64 (2)]) (fun _ => rfl) rfl rfl ?_
    refine wl_un (fun v => Instr.extract v 0) (.tmp 60) (.tuple #[smv sm0, .int .i64 (2)]) (smv sm0) (fun _ => rfl) rfl (by kernel_rfl) rfl ?_
    refine wl_un (fun v => Instr.extract v 1) (.tmp 60) (.tuple #[smv sm0, .int .i64 (2)]) (.int .i64 (2)) (fun _ => rfl) rfl (by kernel_rfl) rfl ?_
    refine wl_alloc 42 #[.int .i64 0, .int .i64 0, .int .i64 0, .int .i64 0, .int .i64 0, .int .u64 0, .int .u64 0, .int .u64 0, .int .u64 0, .int .u64 0, .bool false, .bool false, .int .u64 0, .int .u64 0, .int .u64 0, .int .u64 0, .int .i64 0, .bool false, .int .u64 0, .int .u64 0, .int .u64 0, .int .u64 0, .int .i64 0] rfl (fun _ => by kernel_rfl) rfl ?_
    intro k12 w17 hk hz hq Q12
    have ne_k1_k12 : k1 ≠ k12 := by have := Q1.lt; omega
    have ne_k2_k12 : k2 ≠ k12 := by have := Q2.lt; omega
    have ne_k3_k12 : k3 ≠ k12 := by have := Q3.lt; omega
    have ne_ks_k12 : ks ≠ k12 := by have := Q4.lt; omega
    have ne_k11_k12 : k11 ≠ k12 := by have := Q11.lt; omega
    have N_k12 : wc.heap.size ≤ k12 := by have := M.size; omega
    replace Q1 := Q1.mo hq
    replace Q2 := Q2.mo hq
    replace Q3 := Q3.mo hq
    replace Q4 := Q4.mo hq
    replace Q11 := Q11.mo hq
    replace M := M.trans hq
    clear hk hz hq
    refine wl_stx2 42 (.tmp 11) (.tmp 63) k12 0 ((sml sm0).toArray) [.int .i64 0, .int .i64 0, .int .i64 0, .int .i64 0, .int .i64 0, .int .u64 0, .int .u64 0, .int .u64 0, .int .u64 0, .int .u64 0, .bool false, .bool false, .int .u64 0, .int .u64 0, .int .u64 0, .int .u64 0, .int .i64 0, .bool false, .int .u64 0, .int .u64 0, .int .u64 0, .int .u64 0, .int .i64 0] (sml sm0) Q12 rfl rfl rfl rfl rfl zs42 rfl rfl rfl ?_
    intro w18 hT Qn
    replace Q12 := Qn
    clear Qn
    replace Q1 := hT.other _ _ ne_k1_k12 Q1
    replace Q2 := hT.other _ _ ne_k2_k12 Q2
    replace Q3 := hT.other _ _ ne_k3_k12 Q3
    replace Q4 := hT.other _ _ ne_ks_k12 Q4
    replace Q11 := hT.other _ _ ne_k11_k12 Q11
    replace M := (Mk.refl (fun j => j = k12) _ |>.st hT rfl).mo M (fun _ e => e ▸ N_k12)
    clear hT
    refine wl_mv (.tmp 64) (.int .i64 (2)) (fun _ => rfl) rfl rfl ?_
    refine w_nil ?_
    refine xn_then ?_
    refine w_seq ?_
    refine w_reg ?_
    refine wl_mv (.tmp 4) (pp x9) (fun _ => rfl) rfl rfl ?_
    refine wl_un (fun v => Instr.fieldAt 31 v 2) (.tmp 1) (pt k1 0) (pt k1 2) (fun _ => rfl) g1 (by kernel_rfl) rfl ?_
    refine wl_load 2 (.tmp 67) (pt k1 2) (.int .i64 (o.i)) rfl rfl (run_one Q1 2 2 rfl Try.underlying2 rfl) rfl ?_
    refine wl_call 23 [(.tmp 66), (.tmp 68), (.const (.int .i64 (0)))] _ [pp x9, .int .i64 (o.i), .int .i64 (0)] (.tuple #[V10.v v0, .bool false]) rfl rfl (fun _ _ => by kernel_rfl) (get_u (hU.mo M) (o.i) 0) rfl ?_
    intro w19 hq
    replace Q1 := Q1.mo hq
    replace Q2 := Q2.mo hq
    replace Q3 := Q3.mo hq
    replace Q4 := Q4.mo hq
    replace Q11 := Q11.mo hq
    replace Q12 := Q12.mo hq
    replace M := M.trans hq
    clear hq
    refine wl_mv (.tmp 69) (.tuple #[V10.v v0, .bool false]) (fun _ => rfl) rfl rfl ?_
    refine wl_un (fun v => Instr.extract v 0) (.tmp 65) (.tuple #[V10.v v0, .bool false]) (V10.v v0) (fun _ => rfl) rfl (by kernel_rfl) rfl ?_
    refine wl_un (fun v => Instr.extract v 1) (.tmp 65) (.tuple #[V10.v v0, .bool false]) (.bool false) (fun _ => rfl) rfl (by kernel_rfl) rfl ?_
    refine wl_alloc 55 #[.int .i64 0, .bool false, .int .u64 0, .int .u64 0, .int .u64 0, .int .u64 0, .int .i64 0, .bool false, .string ⟨#[]⟩, .int .i64 0] rfl (fun _ => by kernel_rfl) rfl ?_
    intro k13 w20 hk hz hq Q13
    have ne_k1_k13 : k1 ≠ k13 := by have := Q1.lt; omega
    have ne_k2_k13 : k2 ≠ k13 := by have := Q2.lt; omega
    have ne_k3_k13 : k3 ≠ k13 := by have := Q3.lt; omega
    have ne_ks_k13 : ks ≠ k13 := by have := Q4.lt; omega
    have ne_k11_k13 : k11 ≠ k13 := by have := Q11.lt; omega
    have ne_k12_k13 : k12 ≠ k13 := by have := Q12.lt; omega
    have N_k13 : wc.heap.size ≤ k13 := by have := M.size; omega
    replace Q1 := Q1.mo hq
    replace Q2 := Q2.mo hq
    replace Q3 := Q3.mo hq
    replace Q4 := Q4.mo hq
    replace Q11 := Q11.mo hq
    replace Q12 := Q12.mo hq
    replace M := M.trans hq
    clear hk hz hq
    refine wl_stx2 55 (.tmp 13) (.tmp 70) k13 0 ((V10.cells v0).toArray) [.int .i64 0, .bool false, .int .u64 0, .int .u64 0, .int .u64 0, .int .u64 0, .int .i64 0, .bool false, .string ⟨#[]⟩, .int .i64 0] (V10.cells v0) Q13 rfl rfl rfl rfl rfl zs55 rfl rfl rfl ?_
    intro w21 hT Qn
    replace Q13 := Qn
    clear Qn
    replace Q1 := hT.other _ _ ne_k1_k13 Q1
    replace Q2 := hT.other _ _ ne_k2_k13 Q2
    replace Q3 := hT.other _ _ ne_k3_k13 Q3
    replace Q4 := hT.other _ _ ne_ks_k13 Q4
    replace Q11 := hT.other _ _ ne_k11_k13 Q11
    replace Q12 := hT.other _ _ ne_k12_k13 Q12
    replace M := (Mk.refl (fun j => j = k13) _ |>.st hT rfl).mo M (fun _ e => e ▸ N_k13)
    clear hT
    refine wl_mv (.tmp 71) (.bool false) (fun _ => rfl) rfl rfl ?_
    refine w_nil ?_
    refine xn_then ?_
    refine w_seq ?_
    refine w_reg ?_
    refine wl_mv (.tmp 4) (pp x9) (fun _ => rfl) rfl rfl ?_
    refine wl_call 24 [(.tmp 73), (.const (.int .i64 (0)))] _ [pp x9, .int .i64 (0)] (.tuple #[.int .i64 (0), .bool false]) rfl rfl (fun _ _ => by kernel_rfl) (at_u (hU.mo M)) rfl ?_
    intro w22 hq
    replace Q1 := Q1.mo hq
    replace Q2 := Q2.mo hq
    replace Q3 := Q3.mo hq
    replace Q4 := Q4.mo hq
    replace Q11 := Q11.mo hq
    replace Q12 := Q12.mo hq
    replace Q13 := Q13.mo hq
    replace M := M.trans hq
    clear hq
    refine wl_mv (.tmp 74) (.tuple #[.int .i64 (0), .bool false]) (fun _ => rfl) rfl rfl ?_
    refine wl_un (fun v => Instr.extract v 0) (.tmp 72) (.tuple #[.int .i64 (0), .bool false]) (.int .i64 (0)) (fun _ => rfl) rfl (by kernel_rfl) rfl ?_
    refine wl_un (fun v => Instr.extract v 1) (.tmp 72) (.tuple #[.int .i64 (0), .bool false]) (.bool false) (fun _ => rfl) rfl (by kernel_rfl) rfl ?_
    refine wl_mv (.tmp 75) (.int .i64 (0)) (fun _ => rfl) rfl rfl ?_
    refine wl_mv (.tmp 76) (.bool false) (fun _ => rfl) rfl rfl ?_
    refine w_nil ?_
    refine xn_then ?_
    refine w_seq ?_
    refine w_reg ?_
    refine wl_mv (.tmp 4) (pp x9) (fun _ => rfl) rfl rfl ?_
    refine wl_un (fun v => Instr.fieldAt 31 v 2) (.tmp 1) (pt k1 0) (pt k1 2) (fun _ => rfl) g1 (by kernel_rfl) rfl ?_
    refine wl_load 2 (.tmp 79) (pt k1 2) (.int .i64 (o.i)) rfl rfl (run_one Q1 2 2 rfl Try.underlying2 rfl) rfl ?_
    refine wl_call 25 [(.tmp 78), (.tmp 80)] _ [pp x9, .int .i64 (o.i)] (.tuple #[.int .i64 (0), .bool false]) rfl rfl (fun _ _ => by kernel_rfl) (index_u (hU.mo M) (o.i)) rfl ?_
    intro w23 hq
    replace Q1 := Q1.mo hq
    replace Q2 := Q2.mo hq
    replace Q3 := Q3.mo hq
    replace Q4 := Q4.mo hq
    replace Q11 := Q11.mo hq
    replace Q12 := Q12.mo hq
    replace Q13 := Q13.mo hq
    replace M := M.trans hq
    clear hq
    refine wl_mv (.tmp 81) (.tuple #[.int .i64 (0), .bool false]) (fun _ => rfl) rfl rfl ?_
    refine wl_un (fun v => Instr.extract v 0) (.tmp 77) (.tuple #[.int .i64 (0), .bool false]) (.int .i64 (0)) (fun _ => rfl) rfl (by kernel_rfl) rfl ?_
    refine wl_un (fun v => Instr.extract v 1) (.tmp 77) (.tuple #[.int .i64 (0), .bool false]) (.bool false) (fun _ => rfl) rfl (by kernel_rfl) rfl ?_
    refine wl_mv (.tmp 82) (.int .i64 (0)) (fun _ => rfl) rfl rfl ?_
    refine wl_mv (.tmp 83) (.bool false) (fun _ => rfl) rfl rfl ?_
    refine w_nil ?_
    refine xn_then ?_
    refine w_seq ?_
    refine w_seq ?_
    refine w_reg ?_
    refine wl_mv (.tmp 4) (pp x9) (fun _ => rfl) rfl rfl ?_
    refine wl_un (fun v => Instr.fieldAt 31 v 2) (.tmp 1) (pt k1 0) (pt k1 2) (fun _ => rfl) g1 (by kernel_rfl) rfl ?_
    refine wl_load 2 (.tmp 85) (pt k1 2) (.int .i64 (o.i)) rfl rfl (run_one Q1 2 2 rfl Try.underlying2 rfl) rfl ?_
    refine wl_call 9 [(.tmp 84), (.const (.int .i64 (0))), (.tmp 86), (.const (.slice none 0 0))] _ [pp x9, .int .i64 (0), .int .i64 (o.i), .slice none 0 0] (.int .i64 (2)) rfl rfl (fun _ _ => by kernel_rfl) (insert_u (hU.mo M) 0 (o.i)) rfl ?_
    intro w24 hq
    replace Q1 := Q1.mo hq
    replace Q2 := Q2.mo hq
    replace Q3 := Q3.mo hq
    replace Q4 := Q4.mo hq
    replace Q11 := Q11.mo hq
    replace Q12 := Q12.mo hq
    replace Q13 := Q13.mo hq
    replace M := M.trans hq
    clear hq
    refine wl_bin (fun x y => do eqGuard .neq 25 (.tmp 87) (.const (.int .i64 (2))) x y; binOp .neq 25 x y) (.tmp 87) (.const (.int .i64 (2))) (.int .i64 (2)) (.int .i64 (2)) (.bool false) (fun _ => rfl) rfl rfl (by kernel_rfl) rfl ?_
    refine wl_mv (.tmp 88) (.bool false) (fun _ => rfl) rfl rfl ?_
    refine wl_mv (.tmp 5) (.int .i64 (0)) (fun _ => rfl) rfl rfl ?_
    refine wl_mv (.tmp 7) (.int .i64 (0)) (fun _ => rfl) rfl rfl ?_
    refine wl_bin (fun x y => do eqGuard .add 3 (.tmp 90) (.tmp 91) x y; binOp .add 3 x y) (.tmp 90) (.tmp 91) (.int .i64 (0)) (.int .i64 (0)) (.int .i64 (0)) (fun _ => rfl) rfl rfl (by kernel_rfl) rfl ?_
    refine wl_bin (fun x y => do eqGuard .neq 3 (.tmp 92) (.const (.int .i64 (0))) x y; binOp .neq 3 x y) (.tmp 92) (.const (.int .i64 (0))) (.int .i64 (0)) (.int .i64 (0)) (.bool false) (fun _ => rfl) rfl rfl (by kernel_rfl) rfl ?_
    refine wl_pick (.tmp 89) (.const (.bool true)) (.tmp 93) false (.bool false) (fun _ => rfl) rfl rfl rfl ?_
    refine wl_mv (.tmp 94) (.bool false) (fun _ => rfl) rfl rfl ?_
    refine wl_mv (.tmp 6) (.int .i64 (2)) (fun _ => rfl) rfl rfl ?_
    refine wl_bin (fun x y => do eqGuard .neq 25 (.tmp 96) (.const (.int .i64 (2))) x y; binOp .neq 25 x y) (.tmp 96) (.const (.int .i64 (2))) (.int .i64 (2)) (.int .i64 (2)) (.bool false) (fun _ => rfl) rfl rfl (by kernel_rfl) rfl ?_
    refine wl_pick (.tmp 95) (.const (.bool true)) (.tmp 97) false (.bool false) (fun _ => rfl) rfl rfl rfl ?_
    refine wl_mv (.tmp 98) (.bool false) (fun _ => rfl) rfl rfl ?_
    refine wl_mv (.tmp 8) (.int .i64 (2)) (fun _ => rfl) rfl rfl ?_
    refine wl_bin (fun x y => do eqGuard .neq 25 (.tmp 100) (.const (.int .i64 (2))) x y; binOp .neq 25 x y) (.tmp 100) (.const (.int .i64 (2))) (.int .i64 (2)) (.int .i64 (2)) (.bool false) (fun _ => rfl) rfl rfl (by kernel_rfl) rfl ?_
    refine wl_pick (.tmp 99) (.const (.bool true)) (.tmp 101) false (.bool false) (fun _ => rfl) rfl rfl rfl ?_
    refine wl_mv (.tmp 102) (.bool false) (fun _ => rfl) rfl rfl ?_
    refine wl_mv (.tmp 10) (.int .i64 (2)) (fun _ => rfl) rfl rfl ?_
    refine wl_bin (fun x y => do eqGuard .neq 25 (.tmp 104) (.const (.int .i64 (2))) x y; binOp .neq 25 x y) (.tmp 104) (.const (.int .i64 (2))) (.int .i64 (2)) (.int .i64 (2)) (.bool false) (fun _ => rfl) rfl rfl (by kernel_rfl) rfl ?_
    refine wl_pick (.tmp 103) (.const (.bool true)) (.tmp 105) false (.bool false) (fun _ => rfl) rfl rfl rfl ?_
    refine wl_mv (.tmp 106) (.bool false) (fun _ => rfl) rfl rfl ?_
    refine wl_mv (.tmp 12) (.int .i64 (2)) (fun _ => rfl) rfl rfl ?_
    refine wl_bin (fun x y => do eqGuard .neq 25 (.tmp 108) (.const (.int .i64 (2))) x y; binOp .neq 25 x y) (.tmp 108) (.const (.int .i64 (2))) (.int .i64 (2)) (.int .i64 (2)) (.bool false) (fun _ => rfl) rfl rfl (by kernel_rfl) rfl ?_
    refine wl_pick (.tmp 107) (.const (.bool true)) (.tmp 109) false (.bool false) (fun _ => rfl) rfl rfl rfl ?_
    refine wl_mv (.tmp 110) (.bool false) (fun _ => rfl) rfl rfl ?_
    refine wl_mv (.tmp 4) (pp x9) (fun _ => rfl) rfl rfl ?_
    refine wl_un (fun v => Instr.fieldAt 31 v 2) (.tmp 1) (pt k1 0) (pt k1 2) (fun _ => rfl) g1 (by kernel_rfl) rfl ?_
    refine wl_load 2 (.tmp 113) (pt k1 2) (.int .i64 (o.i)) rfl rfl (run_one Q1 2 2 rfl Try.underlying2 rfl) rfl ?_
    refine wl_build 55 [] [] (.agg #[.int .i64 0, .bool false, .int .u64 0, .int .u64 0, .int .u64 0, .int .u64 0, .int .i64 0, .bool false, .string ⟨#[]⟩, .int .i64 0]) rfl rfl (by kernel_rfl) rfl ?_
    refine wl_call 17 [(.tmp 112), (.tmp 114), (.const (.int .i64 (0))), (.tmp 115)] _ [pp x9, .int .i64 (o.i), .int .i64 (0), .agg #[.int .i64 0, .bool false, .int .u64 0, .int .u64 0, .int .u64 0, .int .u64 0, .int .i64 0, .bool false, .string ⟨#[]⟩, .int .i64 0]] (.int .i64 (2)) rfl rfl (fun _ _ => by kernel_rfl) (set_u (hU.mo M) (o.i) 0) rfl ?_
    intro w25 hq
    replace Q1 := Q1.mo hq
    replace Q2 := Q2.mo hq
    replace Q3 := Q3.mo hq
    replace Q4 := Q4.mo hq
    replace Q11 := Q11.mo hq
    replace Q12 := Q12.mo hq
    replace Q13 := Q13.mo hq
    replace M := M.trans hq
    clear hq
    refine wl_bin (fun x y => do eqGuard .neq 25 (.tmp 116) (.const (.int .i64 (2))) x y; binOp .neq 25 x y) (.tmp 116) (.const (.int .i64 (2))) (.int .i64 (2)) (.int .i64 (2)) (.bool false) (fun _ => rfl) rfl rfl (by kernel_rfl) rfl ?_
    refine wl_pick (.tmp 111) (.const (.bool true)) (.tmp 117) false (.bool false) (fun _ => rfl) rfl rfl rfl ?_
    refine wl_mv (.tmp 118) (.bool false) (fun _ => rfl) rfl rfl ?_
    refine wl_mv (.tmp 14) (.bool false) (fun _ => rfl) rfl rfl ?_
    refine wl_pick (.tmp 119) (.const (.bool true)) (.tmp 120) false (.bool false) (fun _ => rfl) rfl rfl rfl ?_
    refine wl_mv (.tmp 121) (.bool false) (fun _ => rfl) rfl rfl ?_
    refine wl_mv (.tmp 16) (.bool false) (fun _ => rfl) rfl rfl ?_
    refine wl_pick (.tmp 122) (.const (.bool true)) (.tmp 123) false (.bool false) (fun _ => rfl) rfl rfl rfl ?_
    refine wl_mv (.tmp 124) (.bool false) (fun _ => rfl) rfl rfl ?_
    refine wl_mv (.tmp 18) (.bool false) (fun _ => rfl) rfl rfl ?_
    refine wl_pick (.tmp 125) (.const (.bool true)) (.tmp 126) false (.bool false) (fun _ => rfl) rfl rfl rfl ?_
    refine wl_mv (.tmp 127) (.bool false) (fun _ => rfl) rfl rfl ?_
    refine wl_mv (.tmp 4) (pp x9) (fun _ => rfl) rfl rfl ?_
    refine wl_call 10 [(.tmp 129)] _ [pp x9] (.int .i64 (0)) rfl rfl (fun _ _ => by kernel_rfl) (len_u (hU.mo M)) rfl ?_
    intro w26 hq
    replace Q1 := Q1.mo hq
    replace Q2 := Q2.mo hq
    replace Q3 := Q3.mo hq
    replace Q4 := Q4.mo hq
    replace Q11 := Q11.mo hq
    replace Q12 := Q12.mo hq
    replace Q13 := Q13.mo hq
    replace M := M.trans hq
    clear hq
    refine wl_mv (.tmp 4) (pp x9) (fun _ => rfl) rfl rfl ?_
    refine wl_call 19 [(.tmp 131)] _ [pp x9] (.int .i64 (0)) rfl rfl (fun _ _ => by kernel_rfl) (depth_u (hU.mo M)) rfl ?_
    intro w27 hq
    replace Q1 := Q1.mo hq
    replace Q2 := Q2.mo hq
    replace Q3 := Q3.mo hq
    replace Q4 := Q4.mo hq
    replace Q11 := Q11.mo hq
    replace Q12 := Q12.mo hq
    replace Q13 := Q13.mo hq
    replace M := M.trans hq
    clear hq
    refine wl_bin (fun x y => do eqGuard .add 3 (.tmp 130) (.tmp 132) x y; binOp .add 3 x y) (.tmp 130) (.tmp 132) (.int .i64 (0)) (.int .i64 (0)) (.int .i64 (0)) (fun _ => rfl) rfl rfl (by kernel_rfl) rfl ?_
    refine wl_bin (fun x y => do eqGuard .neq 3 (.tmp 133) (.const (.int .i64 (0))) x y; binOp .neq 3 x y) (.tmp 133) (.const (.int .i64 (0))) (.int .i64 (0)) (.int .i64 (0)) (.bool false) (fun _ => rfl) rfl rfl (by kernel_rfl) rfl ?_
    refine wl_pick (.tmp 128) (.const (.bool true)) (.tmp 134) false (.bool false) (fun _ => rfl) rfl rfl rfl ?_
    refine wl_mv (.tmp 135) (.bool false) (fun _ => rfl) rfl rfl ?_
    refine wl_mv (.tmp 4) (pp x9) (fun _ => rfl) rfl rfl ?_
    refine wl_call 14 [(.tmp 137)] _ [pp x9] (.int .i64 (0)) rfl rfl (fun _ _ => by kernel_rfl) (looked_u (hU.mo M)) rfl ?_
    intro w28 hq
    replace Q1 := Q1.mo hq
    replace Q2 := Q2.mo hq
    replace Q3 := Q3.mo hq
    replace Q4 := Q4.mo hq
    replace Q11 := Q11.mo hq
    replace Q12 := Q12.mo hq
    replace Q13 := Q13.mo hq
    replace M := M.trans hq
    clear hq
    refine wl_bin (fun x y => do eqGuard .neq 2 (.tmp 138) (.const (.int .i64 (0))) x y; binOp .neq 2 x y) (.tmp 138) (.const (.int .i64 (0))) (.int .i64 (0)) (.int .i64 (0)) (.bool false) (fun _ => rfl) rfl rfl (by kernel_rfl) rfl ?_
    refine wl_pick (.tmp 136) (.const (.bool true)) (.tmp 139) false (.bool false) (fun _ => rfl) rfl rfl rfl ?_
    refine wl_mv (.tmp 140) (.bool false) (fun _ => rfl) rfl rfl ?_
    refine wl_mv (.tmp 4) (pp x9) (fun _ => rfl) rfl rfl ?_
    refine wl_call 26 [(.tmp 142)] _ [pp x9] (pp none) rfl rfl (fun _ _ => by kernel_rfl) (clone_u (hU.mo M)) rfl ?_
    intro w29 hq
    replace Q1 := Q1.mo hq
    replace Q2 := Q2.mo hq
    replace Q3 := Q3.mo hq
    replace Q4 := Q4.mo hq
    replace Q11 := Q11.mo hq
    replace Q12 := Q12.mo hq
    replace Q13 := Q13.mo hq
    replace M := M.trans hq
    clear hq
    refine wl_bin (fun x y => do eqGuard .neq 24 (.tmp 143) (.const (.pointer none)) x y; binOp .neq 24 x y) (.tmp 143) (.const (.pointer none)) (pp none) (pp none) (.bool false) (fun _ => rfl) rfl rfl (nilp _ _ _) rfl ?_
    refine wl_pick (.tmp 141) (.const (.bool true)) (.tmp 144) false (.bool false) (fun _ => rfl) rfl rfl rfl ?_
    refine w_nil ?_
    refine xn_then ?_
    refine w_condF rfl ?_
    refine w_skip ?_
    refine xn_then ?_
    refine w_seq ?_
    refine w_reg ?_
    refine wl_mv (.tmp 4) (pp x9) (fun _ => rfl) rfl rfl ?_
    refine wl_call 27 [(.tmp 146)] _ [pp x9] (.bool true) rfl rfl (fun _ _ => by kernel_rfl) (empty_u (hU.mo M)) rfl ?_
    intro w30 hq
    replace Q1 := Q1.mo hq
    replace Q2 := Q2.mo hq
    replace Q3 := Q3.mo hq
    replace Q4 := Q4.mo hq
    replace Q11 := Q11.mo hq
    replace Q12 := Q12.mo hq
    replace Q13 := Q13.mo hq
    replace M := M.trans hq
    clear hq
    refine wl_un (fun v => Op.unary .not v) (.tmp 147) (.bool true) (.bool false) (fun _ => rfl) rfl (by kernel_rfl) rfl ?_
    refine w_nil ?_
    refine xn_then ?_
    refine w_condF rfl ?_
    refine w_skip ?_
    refine xn_blk ?_
    refine xn_then ?_
    refine w_reg ?_
    refine wl_bin (fun x y => do eqGuard .add 3 (.tmp 35) (.const (.int .i64 (1))) x y; binOp .add 3 x y) (.tmp 35) (.const (.int .i64 (1))) (.int .i64 ((i : Nat) : Int)) (.int .i64 (1)) (.int .i64 ((i + 1 : Nat) : Int)) (fun _ => rfl) g35 rfl (add1r (by omega) _ _ _) rfl ?_
    refine wl_mv (.tmp 149) (.int .i64 ((i + 1 : Nat) : Int)) (fun _ => rfl) rfl rfl ?_
    refine w_nil ?_
    exact xn_loop (m - 1) (by omega) ⟨i + 1, by omega, g1, g2, g33, g34, rfl, Q1, Q2, Q3, Q4, M0.trans M⟩
  | false =>
    have hf0p := of_decide_eq_false hf0
    refine w_reg ?_
    refine wl_bin (fun x y => do eqGuard .lss 3 (.tmp 35) (.tmp 34) x y; binOp .lss 3 x y) (.tmp 35) (.tmp 34) (.int .i64 ((i : Nat) : Int)) (.int .i64 (2)) (.bool false) (fun _ => rfl) g35 g34 (ltN hf0 _ _ _) rfl ?_
    refine w_nil ?_
    refine xn_then ?_
    refine w_seq ?_
    refine w_condF rfl ?_
    refine w_exit ?_
    refine xx_then ?_
    refine xx_then ?_
    replace M := M0.trans M
    clear M0
    clear hU Q3 Q4 Q1
    refine xx_blk ?_
    refine xn_then ?_
    refine w_seq ?_
    refine w_reg ?_
    refine wl_bs22_2 (.const (.int .i64 (0))) (.const (.int .i64 (2))) (0) (2) rfl rfl rfl rfl ?_
    intro k11 w11 hk hz hq Q11
    have ne_k2_k11 : k2 ≠ k11 := by have := Q2.lt; omega
    have N_k11 : w.heap.size ≤ k11 := by have := M.size; omega
    replace Q2 := Q2.mo hq
    replace M := M.trans hq
    clear hk hz hq
    refine wl_mv (.tmp 150) (.slice (some ⟨k11, 0, none⟩) 2 2) (fun _ => rfl) rfl rfl ?_
    refine w_nil ?_
    refine xn_then ?_
    refine w_seq ?_
    refine w_reg ?_
    refine wl_mv (.tmp 19) (.slice (some ⟨k11, 0, none⟩) 2 2) (fun _ => rfl) rfl rfl ?_
    refine wl_callx 7 [(.tmp 152)] _ [.slice (some ⟨k11, 0, none⟩) 2 2] rfl rfl (fun _ _ => by kernel_rfl) (new_g (n0 := w.heap.size) (ks := [k11, k2]) (sc := [0, 2]) (sn_two Q11) (by decide) M.size (fun j e => by simp only [List.mem_cons, List.not_mem_nil, or_false] at e; rcases e with rfl | rfl; exact Q11.2.2; exact Q2.2.2)) rfl ?_
    rintro _ w12 ⟨t, mb, rfl, hG, hsc, ht9, hq⟩
    refine ⟨_, rfl, ?_⟩
    replace Q2 := Q2.mo hq
    replace Q11 := Q11.mo hq
    replace M := M.trans hq
    clear hq
    refine wl_mv (.tmp 153) (.tuple #[pt t 0, .int .i64 (0)]) (fun _ => rfl) rfl rfl ?_
    refine wl_un (fun v => Instr.extract v 0) (.tmp 151) (.tuple #[pt t 0, .int .i64 (0)]) (pt t 0) (fun _ => rfl) rfl (by kernel_rfl) rfl ?_
    refine wl_un (fun v => Instr.extract v 1) (.tmp 151) (.tuple #[pt t 0, .int .i64 (0)]) (.int .i64 (0)) (fun _ => rfl) rfl (by kernel_rfl) rfl ?_
    refine wl_mv (.tmp 154) (pt t 0) (fun _ => rfl) rfl rfl ?_
    refine wl_mv (.tmp 155) (.int .i64 (0)) (fun _ => rfl) rfl rfl ?_
    refine w_nil ?_
    refine xn_then ?_
    refine w_seq ?_
    refine w_reg ?_
    refine wl_call 28 [(.const (.int .i64 (1))), (.const (.int .i64 (0)))] _ [.int .i64 (1), .int .i64 (0)] (V10.v y1) rfl rfl (fun _ _ => by kernel_rfl) (num_p (n := 1) (s := 0) (by decide) rfl rfl rfl) rfl ?_
    intro w13 hq
    replace Q2 := Q2.mo hq
    replace Q11 := Q11.mo hq
    replace hG := hG.mo hq
    replace M := M.trans hq
    clear hq
    refine wl_call 28 [(.const (.int .i64 (2))), (.const (.int .i64 (2)))] _ [.int .i64 (2), .int .i64 (2)] (V10.v y2) rfl rfl (fun _ _ => by kernel_rfl) (num_p (n := 2) (s := 2) (by decide) rfl rfl rfl) rfl ?_
    intro w14 hq
    replace Q2 := Q2.mo hq
    replace Q11 := Q11.mo hq
    replace hG := hG.mo hq
    replace M := M.trans hq
    clear hq
    refine wl_bs29_2 (.tmp 156) (.tmp 157) y1 y2 rfl rfl rfl rfl ?_
    intro k12 w15 hk hz hq Q12
    have ne_k2_k12 : k2 ≠ k12 := by have := Q2.lt; omega
    have ne_k11_k12 : k11 ≠ k12 := by have := Q11.lt; omega
    have N_k12 : w.heap.size ≤ k12 := by have := M.size; omega
    replace hG := hG.push (Nat.le_of_eq hk) (by omega) hq
    replace Q2 := Q2.mo hq
    replace Q11 := Q11.mo hq
    replace M := M.trans hq
    clear hk hz hq
    refine wl_mv (.tmp 158) (.slice (some ⟨k12, 0, none⟩) 2 2) (fun _ => rfl) rfl rfl ?_
    refine w_nil ?_
    refine xn_then ?_
    refine w_seq ?_
    refine w_seq ?_
    refine w_reg ?_
    refine wl_mv (.tmp 20) (pt t 0) (fun _ => rfl) rfl rfl ?_
    refine wl_bin (fun x y => do eqGuard .eql 24 (.tmp 159) (.const (.pointer none)) x y; binOp .eql 24 x y) (.tmp 159) (.const (.pointer none)) (pt t 0) (pp none) (.bool false) (fun _ => rfl) rfl rfl (eqT _ _ _ _) rfl ?_
    refine wl_mv (.tmp 160) (.bool false) (fun _ => rfl) rfl rfl ?_
    refine wl_mv (.tmp 21) (.int .i64 (0)) (fun _ => rfl) rfl rfl ?_
    refine wl_bin (fun x y => do eqGuard .neq 25 (.tmp 162) (.const (.int .i64 (0))) x y; binOp .neq 25 x y) (.tmp 162) (.const (.int .i64 (0))) (.int .i64 (0)) (.int .i64 (0)) (.bool false) (fun _ => rfl) rfl rfl (by kernel_rfl) rfl ?_
    refine wl_pick (.tmp 161) (.const (.bool true)) (.tmp 163) false (.bool false) (fun _ => rfl) rfl rfl rfl ?_
    refine wl_mv (.tmp 164) (.bool false) (fun _ => rfl) rfl rfl ?_
    refine wl_mv (.tmp 20) (pt t 0) (fun _ => rfl) rfl rfl ?_
    refine wl_mv (.tmp 22) (.slice (some ⟨k12, 0, none⟩) 2 2) (fun _ => rfl) rfl rfl ?_
    refine wl_callx 9 [(.tmp 166), (.const (.int .i64 (0))), (.const (.int .i64 (1))), (.tmp 167)] _ [pt t 0, .int .i64 (0), .int .i64 (1), .slice (some ⟨k12, 0, none⟩) 2 2] rfl rfl (fun _ _ => by kernel_rfl) (insert_g (vs := [y1, y2]) hG (insE_of (by rw [hsc]; rfl) (by show (1 : Int) ∉ ([] : List Int); decide) (by decide) (by decide) (by show (0 : Int) < 1024; decide) (by decide) (by show (0 : Int) ≤ 0; decide)) (by decide) (fun w9 m9 => svv_two (Wr.at m9 Q12 (by simp))) (fun z hz => by simp only [List.mem_cons, List.not_mem_nil, or_false] at hz; rcases hz with rfl | rfl; exact y1_ok; exact y2_ok)) rfl ?_
    rintro _ w16 ⟨vy, kn1, tr1, lk1, rfl, hI1, hG, hl1, hu1, hM2⟩
    refine ⟨_, rfl, ?_⟩
    have e1 : tr1.ids = [⟨1, vy, [y1, y2]⟩] := by have := hI1.td; exact this
    clear hI1
    replace hu1 : lk1 ≤ 8 := hu1
    have hwr := hM2
    replace M := Wr.mo hM2 M (Nat.le_refl _)
    replace Q2 := Wr.at hM2 Q2 (by simp)
    replace Q11 := Wr.at hM2 Q11 (by simp)
    replace Q12 := Wr.at hM2 Q12 (by simp)
    clear hM2
    clear hwr
    refine wl_bin (fun x y => do eqGuard .neq 25 (.tmp 168) (.const (.int .i64 (0))) x y; binOp .neq 25 x y) (.tmp 168) (.const (.int .i64 (0))) (.int .i64 (0)) (.int .i64 (0)) (.bool false) (fun _ => rfl) rfl rfl (by kernel_rfl) rfl ?_
    refine wl_pick (.tmp 165) (.const (.bool true)) (.tmp 169) false (.bool false) (fun _ => rfl) rfl rfl rfl ?_
    refine w_nil ?_
    refine xn_then ?_
    refine w_condF rfl ?_
    refine w_skip ?_
    refine xn_then ?_
    refine w_seq ?_
    refine w_reg ?_
    refine wl_mv (.tmp 19) (.slice (some ⟨k11, 0, none⟩) 2 2) (fun _ => rfl) rfl rfl ?_
    refine wl_mv (.tmp 22) (.slice (some ⟨k12, 0, none⟩) 2 2) (fun _ => rfl) rfl rfl ?_
    refine wl_call 28 [(.const (.int .i64 (9))), (.const (.int .i64 (0)))] _ [.int .i64 (9), .int .i64 (0)] (V10.v y9) rfl rfl (fun _ _ => by kernel_rfl) (num_p (n := 9) (s := 0) (by decide) rfl rfl rfl) rfl ?_
    intro w17 hq
    replace Q2 := Q2.mo hq
    replace Q11 := Q11.mo hq
    replace Q12 := Q12.mo hq
    replace hG := hG.mo hq
    replace M := M.trans hq
    clear hq
    refine wl_bin (fun x y => Instr.indexAt 22 x y) (.tmp 171) (.const (.int .i64 (1))) (.slice (some ⟨k11, 0, none⟩) 2 2) (.int .i64 (1)) (pt k11 1) (fun _ => rfl) rfl rfl (by kernel_rfl) rfl ?_
    refine wl_st1x 3 (.tmp 174) (.const (.int .i64 (5))) k11 1 (.int .i64 (5)) [.int .i64 (0), .int .i64 (2)] [.int .i64 (0), .int .i64 (5)] Q11 rfl rfl rfl rfl rfl zs3 rfl rfl rfl rfl ?_
    intro w18 hT Qn
    replace Q11 := Qn
    clear Qn
    replace Q2 := hT.other _ _ ne_k2_k11 Q2
    replace Q12 := hT.other _ _ ne_k11_k12.symm Q12
    replace hG := hG.st hT (by simp)
    replace M := (Mk.refl (fun j => j = k11) _ |>.st hT rfl).mo M (fun _ e => e ▸ N_k11)
    clear hT
    refine wl_bin (fun x y => Instr.indexAt 29 x y) (.tmp 172) (.const (.int .i64 (0))) (.slice (some ⟨k12, 0, none⟩) 2 2) (.int .i64 (0)) (pt k12 0) (fun _ => rfl) rfl rfl (by kernel_rfl) rfl ?_
    refine wl_stx2 55 (.tmp 175) (.tmp 173) k12 0 ((V10.cells y9).toArray) [.int .i64 (y1.K), .bool y1.n.b, .int .u64 (l0 y1.n.n), .int .u64 (l1 y1.n.n), .int .u64 (l2 y1.n.n), .int .u64 (l3 y1.n.n), .int .i64 (y1.n.s), .bool y1.fl, .string y1.tx, .int .i64 (y1.er), .int .i64 (y2.K), .bool y2.n.b, .int .u64 (l0 y2.n.n), .int .u64 (l1 y2.n.n), .int .u64 (l2 y2.n.n), .int .u64 (l3 y2.n.n), .int .i64 (y2.n.s), .bool y2.fl, .string y2.tx, .int .i64 (y2.er)] [.int .i64 (y9.K), .bool y9.n.b, .int .u64 (l0 y9.n.n), .int .u64 (l1 y9.n.n), .int .u64 (l2 y9.n.n), .int .u64 (l3 y9.n.n), .int .i64 (y9.n.s), .bool y9.fl, .string y9.tx, .int .i64 (y9.er), .int .i64 (y2.K), .bool y2.n.b, .int .u64 (l0 y2.n.n), .int .u64 (l1 y2.n.n), .int .u64 (l2 y2.n.n), .int .u64 (l3 y2.n.n), .int .i64 (y2.n.s), .bool y2.fl, .string y2.tx, .int .i64 (y2.er)] Q12 rfl rfl rfl rfl rfl zs55 rfl rfl rfl ?_
    intro w19 hT Qn
    replace Q12 := Qn
    clear Qn
    replace Q2 := hT.other _ _ ne_k2_k12 Q2
    replace Q11 := hT.other _ _ ne_k11_k12 Q11
    replace hG := hG.st hT (by simp)
    replace M := (Mk.refl (fun j => j = k12) _ |>.st hT rfl).mo M (fun _ e => e ▸ N_k12)
    clear hT
    refine w_nil ?_
    refine xn_then ?_
    refine w_seq ?_
    refine w_seq ?_
    refine w_reg ?_
    refine wl_mv (.tmp 20) (pt t 0) (fun _ => rfl) rfl rfl ?_
    have hk2s := Q2.lt
    refine wl_callx 21 [(.tmp 176)] _ [pt t 0] rfl rfl (fun _ _ => by kernel_rfl) (all_g hG) rfl ?_
    rintro _ w20 ⟨kb, p, cap, Z, rfl, QB, hZ, hRA, hRV, hpb, hnz, hkb, hq⟩
    refine ⟨_, rfl, ?_⟩
    replace Q2 := Q2.mo hq
    replace Q11 := Q11.mo hq
    replace Q12 := Q12.mo hq
    replace M := M.trans hq
    replace hG := hG.mo hq
    clear hq
    refine w_nil ?_
    refine xn_then ?_
    refine w_block ?_
    have hNR : w.heap.size ≤ w20.heap.size := M.size
    have hk2R := Q2.lt
    obtain ⟨D0, hF, hFB⟩ := hG.open
    have hks0 := hG.2.1
    have hG0 := hG.1
    have hzl : Z.length = 1 := by have := congrArg List.length hZ; rw [e1] at this; simpa using this
    have hzv : ∀ z ∈ Z, z.1 = ⟨1, vy, [y1, y2]⟩ := fun z hz => by have : z.1 ∈ Z.map (·.1) := List.mem_map_of_mem hz; rw [hZ, e1] at this; exact List.mem_singleton.1 this
    refine w_rg 42 #[] #[pt kb 0] rfl (fun _ _ => by kernel_rfl) (fun x : Py × Value => #[.int .i64 x.1.i, x.2]) (TZ w20 Z) tz_own (fun a b => Kd (KZ p Z) a b ∧ a.heap.size ≤ b.heap.size) (fun xs => xs.map (·.1) = Z.map (·.1)) (fun pre => ∃ i : Nat, 0 < i ∧ i ≤ Z.length ∧ pre.map (·.1) = (Z.take i).map (·.1)) Z.length (all1_seq QB hRA hRV (by omega) (fun z hz => by rw [hzv z hz]; show 2 ≤ 4096; decide)) (fun h k => ⟨Kd.tr h.1 k.1, Nat.le_trans h.2 k.2⟩) (fun W l o o' hl _ _ _ => ⟨fun k hk => World.putObj_heap_other (by rcases hk with hk | ⟨z, hz, hk⟩; (have := (hpb k hk).2; omega); (have := (hnz z hz k hk).2; omega)), by simp⟩) (fun _ => rfl) (fun (_ : List (Py × Value)) W => FT D0 W t mb tr1 lk1 ∧ At W k2 [.bool false] ∧ Mo w W) (fun _ _ _ => False) ?hI (fun _ _ _ _ _ h _ _ _ => h) ⟨hF, Q2, M⟩ _ ?lx (fun x => frps2 178 179 _ _) ?assign ?body ?done (fun _ _ _ _ _ _ h _ => h.elim)
    case hI => exact (FB.own hFB).and ((OwnF.at (f := fun _ => _) (g := fun _ => [])).and (own_moF hNR))
    case assign =>
      intro lp x W K hK
      refine w_reg ?_
      refine wl_mv (.tmp 179) (x.2) (fun _ => rfl) rfl rfl ?_
      refine w_nil ?_
      exact hK
    case body =>
      rintro lp pre ⟨yx, ux⟩ W ⟨hF, Q2, M⟩ ⟨⟨z, hz1, hz2⟩, hRx, hbx⟩ hlen
      replace hz2 : yx = ⟨1, vy, [y1, y2]⟩ := by have : yx = z.1 := hz2; rw [this]; exact hzv z (List.mem_of_getElem? hz1)
      subst hz2
      replace hRx : Rw W 10 ux ([y1, y2].map V10.cells) := hRx
      obtain ⟨p9, c9, hux, _⟩ := id hRx
      obtain ⟨vsn, hvs9⟩ : ∃ n, n = ([y1, y2].map V10.cells).length := ⟨_, rfl⟩
      rw [← hvs9] at hux
      have hvs2 : vsn = 2 := hvs9
      have hvsn : decide ((vsn : Int) = 2) = true := decide_eq_true (by omega)
      subst hux
      obtain ⟨b9, off9, cap9, hh9, hb9, hf9, hr9, hob9⟩ := hRx.ix (i := 1) (cs := y2.cells) rfl
      have hp9 : p9 = some ⟨b9, off9, none⟩ := by rw [Value.slice.injEq] at hh9; exact hh9.1
      have hbw := hbx b9 hob9
      have X : Mo W W := Mo.refl _
      have Q20 := Q2
      refine w_block ?_
      refine w_seq ?_
      refine w_seq ?_
      refine w_reg ?_
      refine wl_mv (.tmp 24) (.slice p9 vsn c9) (fun _ => rfl) rfl rfl ?_
      refine wl_val (.int .i64 ((vsn : Nat) : Int)) (len29 _ _ _ _ _ (by exact rfl) _ _ _ _ _ _) rfl ?_
      refine wl_bin (fun x y => do eqGuard .neq 3 (.tmp 181) (.const (.int .i64 (2))) x y; binOp .neq 3 x y) (.tmp 181) (.const (.int .i64 (2))) (.int .i64 ((vsn : Nat) : Int)) (.int .i64 (2)) (.bool false) (fun _ => rfl) rfl rfl (neI (r := true) hvsn _ _ _) rfl ?_
      refine w_nil ?_
      refine xn_then ?_
      refine w_condF rfl ?_
      refine w_skip ?_
      refine xn_then ?_
      refine w_reg ?_
      refine wl_mv (.tmp 24) (.slice p9 vsn c9) (fun _ => rfl) rfl rfl ?_
      refine wl_call 28 [(.const (.int .i64 (9))), (.const (.int .i64 (2)))] _ [.int .i64 (9), .int .i64 (2)] (V10.v z9) rfl rfl (fun _ _ => by kernel_rfl) (num_p (n := 9) (s := 2) (by decide) rfl rfl rfl) rfl ?_
      intro w51 hq
      replace X := X.trans hq
      skip
      clear hq
      refine wl_bin (fun x y => Instr.indexAt 29 x y) (.tmp 183) (.const (.int .i64 (1))) (.slice p9 vsn c9) (.int .i64 (1)) (pt b9 (off9 + 1 * 10)) (fun _ => rfl) rfl rfl (by rw [hp9, hvs2]; exact ix29 b9 off9 1 2 _ (by decide) _) rfl ?_
      have hth := (hRx.mo X).there (i := 1) hh9 (by show 1 < 2; decide) (fun y hy => by obtain ⟨z, _, rfl⟩ := List.mem_map.1 hy; rfl)
      refine wl_stm 55 (.tmp 185) (.tmp 184) b9 (off9 + 1 * 10) z9.cells.toArray hth rfl rfl rfl rfl zs55 (by rw [← Array.all_toList]; rfl) rfl ?_
      have hT := St2.mk2 w51 b9 (off9 + 1 * 10) z9.cells
      obtain ⟨w52, hw9⟩ : ∃ Y, Y = w51.setCells b9 (off9 + 1 * 10) z9.cells := ⟨_, rfl⟩
      rw [← hw9] at hT
      show WL _ _ _ _ _ _ (w51.setCells b9 (off9 + 1 * 10) z9.cells)
      rw [← hw9]
      have hMk : Mk (fun j => j = b9) W _ := (Mk.of _ X).tr (Mk.st1 hT) (fun _ _ e => e)
      refine w_nil ?_
      refine xn_blk ?_
      exact WX.mk ⟨keeps_mk2 hMk (fun k hk => by subst hk; exact hRx.has (vss_ne [y1, y2]) hob9), ⟨fun j hj => hMk.block j (by rcases hj with hj | ⟨z, hz, hj⟩; (have := (hpb j hj).2; omega); (have := (hnz z hz j hj).2; omega)) (fun e => by subst e; rcases hj with hj | ⟨z, hz, hj⟩; (have := (hpb _ hj).2; omega); (have := (hnz z hz _ hj).2; omega)), hMk.size⟩, hF.kept hMk (fun j hj e => by have := (hFB j (Or.inl hj)).1; omega) (fun j hj e => by have := (hFB j (Or.inr (Or.inr hj))).1; omega) (fun e => by have := (hFB _ (Or.inr (Or.inl rfl))).1; omega), hMk.at Q20 (fun e => by have := hk2R; omega), hMk.mo M (fun _ e => by have := hNR; omega)⟩
    case done =>
      rintro D xs W hD _ ⟨hF, Q2, M⟩ hK
      have hDs := (Array.getElem?_eq_some_iff.1 hK).1
      have hG := hFB.close hF M.size (ks := [k12, k11, k2]) (fun k hk => Nat.lt_of_lt_of_le (hks0 k hk) (by omega)) hD hDs
      replace hD := Nat.le_trans hNR hD
      have ne_D : D ≠ k2 := dk_ne hK rfl Q2
      refine xn_blk ?_
      refine xn_then ?_
      refine w_seq ?_
      refine w_reg ?_
      refine wl_mv (.tmp 20) (pt t 0) (fun _ => rfl) rfl rfl ?_
      refine wl_callx 12 [(.tmp 187), (.const (.int .i64 (0)))] _ [pt t 0, .int .i64 (0)] rfl rfl (fun _ _ => by kernel_rfl) (sum_any hG (by omega)) rfl ?_
      rintro _ w71 ⟨Sa, cd1, lk10, rfl, hG, hc9, hv1, hw1, hM2⟩
      refine ⟨_, rfl, ?_⟩
      obtain ⟨_, rfl, hSa⟩ : _ ∧ _ ∧ _ := hc9.resolve_right (fun h => h.1 (by rw [hsc]; decide))
      replace hSa : Sa = col 0 0 [⟨1, vy, [y1, y2]⟩] := by rw [hSa, hsc, e1]; rfl
      have qSa : decide (l0 (Sa).tt = 1) = true := by rw [hSa]; rfl
      clear hc9
      have hwr := hM2
      replace M := Wr.mo hM2 M (Nat.le_refl _)
      replace Q2 := Wr.at hM2 Q2 (by simp)
      clear hM2
      replace hK := dk_wr hK hwr (by simp)
      clear hwr
      refine wl_mv (.tmp 188) (.tuple #[smv Sa, .int .i64 (0)]) (fun _ => rfl) rfl rfl ?_
      refine wl_un (fun v => Instr.extract v 0) (.tmp 186) (.tuple #[smv Sa, .int .i64 (0)]) (smv Sa) (fun _ => rfl) rfl (by kernel_rfl) rfl ?_
      refine wl_un (fun v => Instr.extract v 1) (.tmp 186) (.tuple #[smv Sa, .int .i64 (0)]) (.int .i64 (0)) (fun _ => rfl) rfl (by kernel_rfl) rfl ?_
      refine wl_alloc 42 #[.int .i64 0, .int .i64 0, .int .i64 0, .int .i64 0, .int .i64 0, .int .u64 0, .int .u64 0, .int .u64 0, .int .u64 0, .int .u64 0, .bool false, .bool false, .int .u64 0, .int .u64 0, .int .u64 0, .int .u64 0, .int .i64 0, .bool false, .int .u64 0, .int .u64 0, .int .u64 0, .int .u64 0, .int .i64 0] rfl (fun _ => by kernel_rfl) rfl ?_
      intro k13 w72 hk hz hq Q13
      have ne_k2_k13 : k2 ≠ k13 := by have := Q2.lt; omega
      have N_k13 : w.heap.size ≤ k13 := by have := M.size; omega
      replace hG := hG.push (Nat.le_of_eq hk) (by omega) hq
      replace Q2 := Q2.mo hq
      replace hK := dk_mo hK hq
      replace M := M.trans hq
      clear hk hz hq
      have hDk := dk_ne hK rfl Q13
      refine wl_stx2 42 (.tmp 25) (.tmp 189) k13 0 ((sml Sa).toArray) [.int .i64 0, .int .i64 0, .int .i64 0, .int .i64 0, .int .i64 0, .int .u64 0, .int .u64 0, .int .u64 0, .int .u64 0, .int .u64 0, .bool false, .bool false, .int .u64 0, .int .u64 0, .int .u64 0, .int .u64 0, .int .i64 0, .bool false, .int .u64 0, .int .u64 0, .int .u64 0, .int .u64 0, .int .i64 0] (sml Sa) Q13 rfl rfl rfl rfl rfl zs42 rfl rfl rfl ?_
      intro w73 hT Qn
      replace Q13 := Qn
      clear Qn
      replace Q2 := hT.other _ _ ne_k2_k13 Q2
      replace hG := hG.st hT (by simp)
      replace M := (Mk.refl (fun j => j = k13) _ |>.st hT rfl).mo M (fun _ e => e ▸ N_k13)
      replace hK := dk_st hK hT hDk
      clear hT
      clear hDk
      refine wl_mv (.tmp 190) (.int .i64 (0)) (fun _ => rfl) rfl rfl ?_
      refine w_nil ?_
      refine xn_then ?_
      refine w_seq ?_
      refine w_reg ?_
      refine wl_mv (.tmp 20) (pt t 0) (fun _ => rfl) rfl rfl ?_
      refine wl_callx 12 [(.tmp 192), (.const (.int .i64 (1)))] _ [pt t 0, .int .i64 (1)] rfl rfl (fun _ _ => by kernel_rfl) (sum_any hG (by omega)) rfl ?_
      rintro _ w74 ⟨Sb, cd2, lk20, rfl, hG, hc9, hv2, hw2, hM2⟩
      refine ⟨_, rfl, ?_⟩
      obtain ⟨_, rfl, hSb⟩ : _ ∧ _ ∧ _ := hc9.resolve_right (fun h => h.1 (by rw [hsc]; decide))
      replace hSb : Sb = col 1 2 [⟨1, vy, [y1, y2]⟩] := by rw [hSb, hsc, e1]; rfl
      have qSb : decide (l0 (Sb).tt = 2) = true := by rw [hSb]; rfl
      have hso : Sb.so = true := by rw [hSb]; rfl
      clear hc9
      have hwr := hM2
      replace M := Wr.mo hM2 M (Nat.le_refl _)
      replace Q2 := Wr.at hM2 Q2 (by simp)
      replace Q13 := Wr.at hM2 Q13 (by simp)
      clear hM2
      replace hK := dk_wr hK hwr (by simp)
      clear hwr
      refine wl_mv (.tmp 193) (.tuple #[smv Sb, .int .i64 (0)]) (fun _ => rfl) rfl rfl ?_
      refine wl_un (fun v => Instr.extract v 0) (.tmp 191) (.tuple #[smv Sb, .int .i64 (0)]) (smv Sb) (fun _ => rfl) rfl (by kernel_rfl) rfl ?_
      refine wl_un (fun v => Instr.extract v 1) (.tmp 191) (.tuple #[smv Sb, .int .i64 (0)]) (.int .i64 (0)) (fun _ => rfl) rfl (by kernel_rfl) rfl ?_
      refine wl_alloc 42 #[.int .i64 0, .int .i64 0, .int .i64 0, .int .i64 0, .int .i64 0, .int .u64 0, .int .u64 0, .int .u64 0, .int .u64 0, .int .u64 0, .bool false, .bool false, .int .u64 0, .int .u64 0, .int .u64 0, .int .u64 0, .int .i64 0, .bool false, .int .u64 0, .int .u64 0, .int .u64 0, .int .u64 0, .int .i64 0] rfl (fun _ => by kernel_rfl) rfl ?_
      intro k14 w75 hk hz hq Q14
      have ne_k2_k14 : k2 ≠ k14 := by have := Q2.lt; omega
      have ne_k13_k14 : k13 ≠ k14 := by have := Q13.lt; omega
      have N_k14 : w.heap.size ≤ k14 := by have := M.size; omega
      replace hG := hG.push (Nat.le_of_eq hk) (by omega) hq
      replace Q2 := Q2.mo hq
      replace Q13 := Q13.mo hq
      replace hK := dk_mo hK hq
      replace M := M.trans hq
      clear hk hz hq
      have hDk := dk_ne hK rfl Q14
      refine wl_stx2 42 (.tmp 27) (.tmp 194) k14 0 ((sml Sb).toArray) [.int .i64 0, .int .i64 0, .int .i64 0, .int .i64 0, .int .i64 0, .int .u64 0, .int .u64 0, .int .u64 0, .int .u64 0, .int .u64 0, .bool false, .bool false, .int .u64 0, .int .u64 0, .int .u64 0, .int .u64 0, .int .i64 0, .bool false, .int .u64 0, .int .u64 0, .int .u64 0, .int .u64 0, .int .i64 0] (sml Sb) Q14 rfl rfl rfl rfl rfl zs42 rfl rfl rfl ?_
      intro w76 hT Qn
      replace Q14 := Qn
      clear Qn
      replace Q2 := hT.other _ _ ne_k2_k14 Q2
      replace Q13 := hT.other _ _ ne_k13_k14 Q13
      replace hG := hG.st hT (by simp)
      replace M := (Mk.refl (fun j => j = k14) _ |>.st hT rfl).mo M (fun _ e => e ▸ N_k14)
      replace hK := dk_st hK hT hDk
      clear hT
      clear hDk
      refine wl_mv (.tmp 195) (.int .i64 (0)) (fun _ => rfl) rfl rfl ?_
      refine w_nil ?_
      refine xn_then ?_
      refine w_seq ?_
      refine w_reg ?_
      refine wl_mv (.tmp 26) (.int .i64 (0)) (fun _ => rfl) rfl rfl ?_
      refine wl_bin (fun x y => do eqGuard .eql 25 (.tmp 196) (.const (.int .i64 (0))) x y; binOp .eql 25 x y) (.tmp 196) (.const (.int .i64 (0))) (.int .i64 (0)) (.int .i64 (0)) (.bool true) (fun _ => rfl) rfl rfl (by kernel_rfl) rfl ?_
      refine wl_mv (.tmp 197) (.bool true) (fun _ => rfl) rfl rfl ?_
      refine wl_mv (.tmp 28) (.int .i64 (0)) (fun _ => rfl) rfl rfl ?_
      refine wl_bin (fun x y => do eqGuard .eql 25 (.tmp 199) (.const (.int .i64 (0))) x y; binOp .eql 25 x y) (.tmp 199) (.const (.int .i64 (0))) (.int .i64 (0)) (.int .i64 (0)) (.bool true) (fun _ => rfl) rfl rfl (by kernel_rfl) rfl ?_
      refine wl_pick (.tmp 198) (.tmp 200) (.const (.bool false)) true (.bool true) (fun _ => rfl) rfl rfl rfl ?_
      refine wl_mv (.tmp 201) (.bool true) (fun _ => rfl) rfl rfl ?_
      refine wl_un (fun v => Instr.fieldAt 42 v 5) (.tmp 25) (pt k13 0) (pt k13 5) (fun _ => rfl) rfl (by kernel_rfl) rfl ?_
      refine wl_bin (fun x y => Instr.indexAt 36 x y) (.tmp 203) (.const (.int .i64 (0))) (pt k13 5) (.int .i64 (0)) (pt k13 5) (fun _ => rfl) rfl rfl (by kernel_rfl) rfl ?_
      refine wl_load 34 (.tmp 204) (pt k13 5) (.int .u64 (l0 (Sa).tt)) rfl rfl (run_one Q13 34 5 rfl Try.underlying34 rfl) rfl ?_
      refine wl_bin (fun x y => do eqGuard .eql 34 (.tmp 205) (.const (.int .u64 (1))) x y; binOp .eql 34 x y) (.tmp 205) (.const (.int .u64 (1))) (.int .u64 (l0 (Sa).tt)) (.int .u64 (1)) (.bool true) (fun _ => rfl) rfl rfl (eqU qSa _ _ _) rfl ?_
      refine wl_pick (.tmp 202) (.tmp 206) (.const (.bool false)) true (.bool true) (fun _ => rfl) rfl rfl rfl ?_
      refine wl_mv (.tmp 207) (.bool true) (fun _ => rfl) rfl rfl ?_
      refine wl_un (fun v => Instr.fieldAt 42 v 5) (.tmp 27) (pt k14 0) (pt k14 5) (fun _ => rfl) rfl (by kernel_rfl) rfl ?_
      refine wl_bin (fun x y => Instr.indexAt 36 x y) (.tmp 209) (.const (.int .i64 (0))) (pt k14 5) (.int .i64 (0)) (pt k14 5) (fun _ => rfl) rfl rfl (by kernel_rfl) rfl ?_
      refine wl_load 34 (.tmp 210) (pt k14 5) (.int .u64 (l0 (Sb).tt)) rfl rfl (run_one Q14 34 5 rfl Try.underlying34 rfl) rfl ?_
      refine wl_bin (fun x y => do eqGuard .eql 34 (.tmp 211) (.const (.int .u64 (2))) x y; binOp .eql 34 x y) (.tmp 211) (.const (.int .u64 (2))) (.int .u64 (l0 (Sb).tt)) (.int .u64 (2)) (.bool true) (fun _ => rfl) rfl rfl (eqU qSb _ _ _) rfl ?_
      refine wl_pick (.tmp 208) (.tmp 212) (.const (.bool false)) true (.bool true) (fun _ => rfl) rfl rfl rfl ?_
      refine wl_mv (.tmp 213) (.bool true) (fun _ => rfl) rfl rfl ?_
      refine wl_un (fun v => Instr.fieldAt 42 v 6) (.tmp 27) (pt k14 0) (pt k14 10) (fun _ => rfl) rfl (by kernel_rfl) rfl ?_
      refine wl_load 4 (.tmp 215) (pt k14 10) (.bool (Sb).so) rfl rfl (run_one Q14 4 10 rfl Try.underlying4 rfl) rfl ?_
      refine wl_pick (.tmp 214) (.tmp 216) (.const (.bool false)) true (.bool (Sb).so) (fun _ => rfl) rfl rfl rfl ?_
      have hDk := dk_ne hK rfl Q2
      refine wl_st1x 4 (.tmp 2) (.tmp 217) k2 0 (.bool (Sb).so) [.bool false] [.bool (Sb).so] Q2 rfl rfl g2 rfl rfl zs4 rfl rfl rfl rfl ?_
      intro w77 hT Qn
      replace Q2 := Qn
      clear Qn
      replace Q13 := hT.other _ _ ne_k2_k13.symm Q13
      replace Q14 := hT.other _ _ ne_k2_k14.symm Q14
      replace hG := hG.st hT (by simp)
      replace M := (Mk.refl (fun j => j = k2) _ |>.st hT rfl).mo M (fun _ e => e ▸ N_k2)
      replace hK := dk_st hK hT hDk
      clear hT
      clear hDk
      refine w_nil ?_
      refine xn_then ?_
      refine w_ret ?_
      rw [hso] at Q2
      have QZ := At.grown Q2 (grownBy_putObj' _ D (.deferred none)) (fun r e => by cases e; exact ⟨_, hK, rfl⟩)
      exact w_ret1m D _ (.bool true) rfl hK ⟨k2, g2, run_one QZ 4 0 rfl Try.underlying4 rfl⟩ ⟨rfl, Mo.putO M hD hK rfl rfl⟩
end
end R
end G
end Go.Proofs.Ythfemlhmnjfjiaa
/-
  Scripts that came in.
-/
namespace Go.Proofs.Ythfemlhmnjfjiaa
open Go.ChangeShapes Go.WideShapes Go.ChangeAt Go.RowKit
namespace G
theorem Try.own : ownKnob Try.prog.godebug = none := by kernel_rfl
theorem Try.cl2 : Try.prog.cellsOf 2 = 1 := by kernel_rfl
theorem Try.cl4 : Try.prog.cellsOf 4 = 1 := by kernel_rfl
theorem Try.cl9 : Try.prog.cellsOf 9 = 1 := by kernel_rfl
theorem Try.cl29 : Try.prog.cellsOf 29 = 1 := by kernel_rfl
theorem Try.cl31 : Try.prog.cellsOf 31 = 7 := by kernel_rfl
theorem Try.cl34 : Try.prog.cellsOf 34 = 1 := by kernel_rfl
theorem Try.cl38 : Try.prog.cellsOf 38 = 4 := by kernel_rfl
theorem Try.cl40 : Try.prog.cellsOf 40 = 6 := by kernel_rfl
theorem Try.cl55 : Try.prog.cellsOf 55 = 10 := by kernel_rfl
theorem Try.laidOut : laidOutB Try.prog = true := by kernel_rfl
theorem l0_vl {a b c d : Int} (h : U4 a b c d) : l0 (vl a b c d) = a := by unfold vl l0; unfold U4 U1 at h; omega
theorem l1_vl {a b c d : Int} (h : U4 a b c d) : l1 (vl a b c d) = b := by unfold vl l1; unfold U4 U1 at h; omega
theorem l2_vl {a b c d : Int} (h : U4 a b c d) : l2 (vl a b c d) = c := by unfold vl l2; unfold U4 U1 at h; omega
theorem l3_vl {a b c d : Int} (h : U4 a b c d) : l3 (vl a b c d) = d := by unfold vl l3; unfold U4 U1 at h; omega
theorem wf_u1 {x : Int} (h : (Lit.int .u64 x).wf = true) : U1 x := by
  simp [Lit.wf, IntKind.min, IntKind.max, IntKind.signed, IntKind.bits] at h
  exact ⟨by omega, by omega⟩
theorem wf_i1 {x : Int} (h : (Lit.int .i64 x).wf = true) : I64 x := by
  simp [Lit.wf, IntKind.min, IntKind.max, IntKind.signed, IntKind.bits] at h
  exact ⟨by omega, by omega⟩
theorem trodAll_stays {H : Type} {enc : TypeId × Value → H} {W W' : World} {sp' : Nat → Bool} : ∀ {ts : List TypeId} {vs : List Value} {ds : List (DataW H)} {ps : List MemPlace}, (∀ t ∈ ts, Try.prog.readableRec t = true ∧ t < Try.prog.types.size) → DataW.TrodAll enc Try.prog W 0 (fun _ => true) true ts vs ds ps → (∀ p ∈ ps, W.sameAt W' p) → (∀ p ∈ ps, sp' p.block = true) → DataW.TrodAll enc Try.prog W' 0 sp' true ts vs ds ps
  | [], [], [], _, _, h, _, _ => h
  | _ :: _, _ :: _, _ :: _, _, hT, ⟨p, q, h1, h2, e⟩, hm, hs => ⟨p, q, WideElems.Trod_stays Try.laidOut (hT _ (List.mem_cons.2 (Or.inl rfl))).1 (hT _ (List.mem_cons.2 (Or.inl rfl))).2 h1 (fun x hx => hm x (by rw [e]; exact List.mem_append_left _ hx)) (fun x hx => hs x (by rw [e]; exact List.mem_append_left _ hx)),
      trodAll_stays (fun t ht => hT t (List.mem_cons.2 (Or.inr ht))) h2 (fun x hx => hm x (by rw [e]; exact List.mem_append_right _ hx)) (fun x hx => hs x (by rw [e]; exact List.mem_append_right _ hx)), e⟩
section
variable {H : Type} {enc : TypeId × Value → H} {W : World} {sp : Nat → Bool} {fuel : Nat} {cs : List Value} {x : DataW H × List MemPlace}
set_option maxRecDepth 100000 in
theorem cut4 (h : DataW.trod enc Try.prog W 0 sp true fuel 38 cs = some x) : ∃ n : Int, (0 ≤ n ∧ n < MM) ∧ cs = [.int .u64 (l0 n), .int .u64 (l1 n), .int .u64 (l2 n), .int .u64 (l3 n)] := by
  obtain ⟨xs, m, rfl, _, hlen, hn, hi⟩ := DataW.trod_array Try.underlying38 h
  rw [Try.cl38] at hlen
  obtain ⟨c0, c1, c2, c3, rfl⟩ : ∃ c0 c1 c2 c3, cs = [c0, c1, c2, c3] := by
    match cs, hlen with
    | [a, b, c, d], _ => exact ⟨a, b, c, d, rfl⟩
  obtain ⟨y0, y1, y2, y3, rfl⟩ : ∃ y0 y1 y2 y3, xs = [y0, y1, y2, y3] := by
    match xs, hn with
    | [a, b, c, d], _ => exact ⟨a, b, c, d, rfl⟩
  have i0 := hi 0 (by decide)
  have i1 := hi 1 (by decide)
  have i2 := hi 2 (by decide)
  have i3 := hi 3 (by decide)
  simp only [Try.cl34] at i0 i1 i2 i3
  simp at i0 i1 i2 i3
  obtain ⟨x0, e0, _, w0⟩ := DataW.trod_int Try.underlying34 i0
  obtain ⟨x1, e1, _, w1⟩ := DataW.trod_int Try.underlying34 i1
  obtain ⟨x2, e2, _, w2⟩ := DataW.trod_int Try.underlying34 i2
  obtain ⟨x3, e3, _, w3⟩ := DataW.trod_int Try.underlying34 i3
  simp at e0 e1 e2 e3
  subst e0 e1 e2 e3
  have u : U4 x0 x1 x2 x3 := ⟨wf_u1 w0, wf_u1 w1, wf_u1 w2, wf_u1 w3⟩
  exact ⟨vl x0 x1 x2 x3, vl_bd u, by rw [l0_vl u, l1_vl u, l2_vl u, l3_vl u]⟩
set_option maxRecDepth 100000 in
theorem cut6 (h : DataW.trod enc Try.prog W 0 sp true fuel 40 cs = some x) : ∃ d : D3, d.ok ∧ cs = [.bool d.b, .int .u64 (l0 d.n), .int .u64 (l1 d.n), .int .u64 (l2 d.n), .int .u64 (l3 d.n), .int .i64 d.s] := by
  obtain ⟨y0, y1, y2, m, _, hl, h0, h1, h2⟩ := Go.Deep.trod_struct3 Try.underlying40 h
  rw [Try.cl40] at hl
  obtain ⟨c0, c1, c2, c3, c4, c5, rfl⟩ : ∃ c0 c1 c2 c3 c4 c5, cs = [c0, c1, c2, c3, c4, c5] := by
    match cs, hl with
    | [a, b, c, d, e, f], _ => exact ⟨a, b, c, d, e, f, rfl⟩
  simp [Try.cl4, Try.cl38, Try.cl3] at h0 h1 h2
  obtain ⟨b, e0, _⟩ := DataW.trod_bool Try.underlying4 h0
  obtain ⟨n, hn, e1⟩ := cut4 h1
  obtain ⟨s, e2, _, w2⟩ := DataW.trod_int Try.underlying3 h2
  simp at e0 e1 e2
  obtain ⟨e10, e11, e12, e13⟩ := e1
  subst e0 e10 e11 e12 e13 e2
  exact ⟨⟨b, n, s⟩, hn, rfl⟩
set_option maxRecDepth 100000 in
theorem cut10 (h : DataW.trod enc Try.prog W 0 sp true fuel 55 cs = some x) : ∃ v : V10, v.n.ok ∧ cs = v.cells := by
  obtain ⟨xs, n, rfl, _, hl, hlen, hi⟩ := DataW.trod_struct Try.underlying55 h
  rw [Try.cl55] at hl
  obtain ⟨c0, c1, c2, c3, c4, c5, c6, c7, c8, c9, rfl⟩ : ∃ c0 c1 c2 c3 c4 c5 c6 c7 c8 c9, cs = [c0, c1, c2, c3, c4, c5, c6, c7, c8, c9] := by
    match cs, hl with
    | [a0, a1, a2, a3, a4, a5, a6, a7, a8, a9], _ => exact ⟨a0, a1, a2, a3, a4, a5, a6, a7, a8, a9, rfl⟩
  obtain ⟨y0, y1, y2, y3, y4, rfl⟩ : ∃ y0 y1 y2 y3 y4, xs = [y0, y1, y2, y3, y4] := by
    match xs, hlen with
    | [a0, a1, a2, a3, a4], _ => exact ⟨a0, a1, a2, a3, a4, rfl⟩
  have i0 := hi 0 _ rfl
  have i1 := hi 1 _ rfl
  have i2 := hi 2 _ rfl
  have i3 := hi 3 _ rfl
  have i4 := hi 4 _ rfl
  simp [Try.cl3, Try.cl4, Try.cl9, Try.cl40] at i0 i1 i2 i3 i4
  obtain ⟨K, e0, _, w0⟩ := DataW.trod_int Try.underlying3 i0
  obtain ⟨d, hd, e1⟩ := cut6 i1
  obtain ⟨fl, e2, _⟩ := DataW.trod_bool Try.underlying4 i2
  obtain ⟨tx, e3, _⟩ := DataW.trod_string Try.underlying9 i3
  obtain ⟨er, e4, _, w4⟩ := DataW.trod_int Try.underlying3 i4
  simp at e0 e1 e2 e3 e4
  obtain ⟨e10, e11, e12, e13, e14, e15⟩ := e1
  subst e0 e10 e11 e12 e13 e14 e15 e2 e3 e4
  exact ⟨⟨K, d, fl, tx, er⟩, hd, rfl⟩
/-- A slice that came in, of whatever elements of n cells. -/
theorem cut_sl {t e : TypeId} (hu : Try.prog.underlying t = some (.slice e)) {n : Nat} (hn : 0 < n) (hcl : Try.prog.cellsOf e = n) {α : Type} (cells : α → List Value) (dflt : α) (ok : α → Prop) (hlen : ∀ y, (cells y).length = n)
    (hcut : ∀ {m : Nat} {cs : List Value} {y : DataW H × List MemPlace}, DataW.trod enc Try.prog W 0 sp true m e cs = some y → ∃ z, ok z ∧ cs = cells z) {v : Value} (h : DataW.trod enc Try.prog W 0 sp true fuel t [v] = some x) :
    ∃ (L : List α) (pa : Option Addr) (cap : Nat), v = .slice pa L.length cap ∧ (∀ o ∈ L, ok o) ∧ (∀ i o, L[i]? = some o → ∃ b off, pa = some ⟨b, off, none⟩ ∧ b < W.heap.size ∧ W.rangeAt b (off + i * n) (cells o)) ∧ (L = [] ∨ ∃ elems spare, x.1 = .slice elems spare ∧ elems.length = L.length) := by
  rcases Go.Deep.open_slice hu h with ⟨hcs, _⟩ | ⟨a, len, cap, m, k, D, Pl, hcs, _, hl, _, hm, hx, hel⟩
  · simp only [List.cons.injEq, and_true] at hcs
    subst hcs
    exact ⟨[], none, 0, rfl, fun _ e => (by cases e), fun _ _ e => (by cases e), Or.inl rfl⟩
  · simp only [List.cons.injEq, and_true] at hcs
    subst hcs
    have hm2 : len ≤ m := by rw [hm]; split <;> omega
    have first : ∀ o : α, ∃ u, (cells o)[0]? = some u := fun o => ⟨(cells o)[0]'(by rw [hlen]; exact hn), List.getElem?_eq_getElem _⟩
    have key : ∀ i : Nat, ∃ S : α, i < len → ok S ∧ ∃ b off, some a = some (⟨b, off, none⟩ : Addr) ∧ b < W.heap.size ∧ W.rangeAt b (off + i * n) (cells S) := by
      intro i
      by_cases hi : i < len
      · obtain ⟨cs', hc, ht⟩ := hel i (by omega)
        obtain ⟨o, ho, rfl⟩ := hcut ht
        refine ⟨o, fun _ => ⟨ho, ?_⟩⟩
        rw [hcl] at hc
        have hb := World.cells?_block hc hn
        obtain ⟨_, _, hcell⟩ := World.cells?_some hc
        obtain ⟨b, off, spot⟩ := a
        have hs : spot = none := by
          obtain ⟨cs0, hc0, ht0⟩ := hel 0 (by omega)
          obtain ⟨o0, _, rfl⟩ := hcut ht0
          rw [hcl] at hc0
          have h0 := (World.cells?_some hc0).2.2 0 hn
          obtain ⟨u, hu0⟩ := first o0
          rw [hu0] at h0
          have := World.cell?_spot (show W.cell? (((⟨b, off, spot⟩ : Addr).add (0 * n)).add 0) = some u from h0)
          simpa [Addr.add] using this
        subst hs
        refine ⟨b, off, rfl, by simpa [Addr.add_mid] using hb, fun j v hv => ?_⟩
        have hj : j < n := by rw [← hlen o]; exact (List.getElem?_eq_some_iff.1 hv).1
        have := hcell j hj
        rw [Addr.add_mid, Addr.add_mid, hv] at this
        exact this
      · exact ⟨dflt, fun e => absurd e hi⟩
    obtain ⟨f, hf2⟩ := Classical.skolem.1 key
    refine ⟨(List.range len).map f, some a, cap, by simp, fun o ho => ?_, fun i o e => ?_, Or.inr ⟨_, _, congrArg Prod.fst hx, by simp⟩⟩
    · obtain ⟨i, hi, rfl⟩ := List.mem_map.1 ho
      exact (hf2 i (by simpa using hi)).1
    · have hi : i < len := by have := (List.getElem?_eq_some_iff.1 e).1; simpa using this
      rw [List.getElem?_map, List.getElem?_range hi] at e
      cases e
      exact (hf2 i hi).2
set_option maxRecDepth 100000 in
theorem cut31 (h : DataW.trod enc Try.prog W 0 sp true fuel 31 cs = some x) : ∃ o : Op6, (o.ok ∧ SVv W o.p o.vs) ∧ cs = o.cells := by
  obtain ⟨xs, n, rfl, _, hl, hlen, hi⟩ := DataW.trod_struct Try.underlying31 h
  rw [Try.cl31] at hl
  obtain ⟨c0, c1, c2, c3, c4, c5, c6, rfl⟩ : ∃ c0 c1 c2 c3 c4 c5 c6, cs = [c0, c1, c2, c3, c4, c5, c6] := by
    match cs, hl with
    | [a0, a1, a2, a3, a4, a5, a6], _ => exact ⟨a0, a1, a2, a3, a4, a5, a6, rfl⟩
  obtain ⟨y0, y1, y2, y3, y4, y5, y6, rfl⟩ : ∃ y0 y1 y2 y3 y4 y5 y6, xs = [y0, y1, y2, y3, y4, y5, y6] := by
    match xs, hlen with
    | [a0, a1, a2, a3, a4, a5, a6], _ => exact ⟨a0, a1, a2, a3, a4, a5, a6, rfl⟩
  have i0 := hi 0 _ rfl
  have i1 := hi 1 _ rfl
  have i2 := hi 2 _ rfl
  have i3 := hi 3 _ rfl
  have i4 := hi 4 _ rfl
  have i5 := hi 5 _ rfl
  have i6 := hi 6 _ rfl
  simp [Try.cl3, Try.cl2, Try.cl29] at i0 i1 i2 i3 i4 i5 i6
  obtain ⟨d, e0, _, w0⟩ := DataW.trod_int Try.underlying3 i0
  obtain ⟨a, e1, _, w1⟩ := DataW.trod_int Try.underlying3 i1
  obtain ⟨i, e2, _, w2⟩ := DataW.trod_int Try.underlying2 i2
  obtain ⟨L, pa, cap, e3, hL, hSV, _⟩ := cut_sl Try.underlying29 (n := 10) (by decide) Try.cl55 V10.cells v0 (fun y => y.n.ok) (fun _ => rfl) (fun h => cut10 h) i3
  obtain ⟨c, e4, _, w4⟩ := DataW.trod_int Try.underlying3 i4
  obtain ⟨f, e5, _, w5⟩ := DataW.trod_int Try.underlying3 i5
  obtain ⟨g, e6, _, w6⟩ := DataW.trod_int Try.underlying3 i6
  simp at e0 e1 e2 e4 e5 e6
  subst e0 e1 e2 e3 e4 e5 e6
  exact ⟨⟨d, a, i, pa, L, cap, c, f, g⟩, ⟨⟨wf_i1 w0, wf_i1 w1, wf_i1 w2, hL, wf_i1 w4, wf_i1 w5, wf_i1 w6⟩, hSV⟩, rfl⟩
end
section
variable {H : Type} {enc : TypeId × Value → H} {W : World} {base : Nat} {v : Value} {d : DataW H} {p : List MemPlace}
set_option maxRecDepth 100000 in
theorem open_opv (hv : Value.okWide Try.prog W .any base 31 v) (h : DataW.Trod enc Try.prog W 0 (fun _ => true) true 31 v d p) : ∃ o : Op6, o.ok ∧ SVv W o.p o.vs ∧ v = o.v := by
  obtain ⟨cs, rfl, hsz, _⟩ : ∃ cs, v = .agg cs ∧ cs.size = Try.prog.cellsOf 31 ∧ Row.okWide Try.prog W .any base 31 cs := by
    simpa [Value.okWide, Try.underlying31] using hv
  obtain ⟨fuel, hf⟩ := h
  obtain ⟨o, h1, h3⟩ := cut31 hf
  refine ⟨o, h1.1, h1.2, ?_⟩
  have : cs = (o.cells).toArray := by rw [← h3]; simp [Value.cells]
  rw [this]; rfl
end
end G
end Go.Proofs.Ythfemlhmnjfjiaa
