/-
  A part of the proof.
-/
import Derived.Test.YthfemlhmnjfjiaaC8
import Derived.Laws.Append
import Derived.Deep.DeepAppendWide
/-
  The tree's calls: made, Len, Looked, Depth, At, Index, Delete.
-/
namespace Go.Proofs.Ythfemlhmnjfjiaa
open Go.RowKit
namespace G
section
variable {D : Nat → Prop} {w : World} {t : Nat} {mb : Hd} {R : Mp} {root : Option Nat} {lk : Int}
theorem neT (k : Nat) (a b : Operand) (w : World) : (do eqGuard .neq 24 a b (pt k 0) (.pointer none); binOp .neq 24 (pt k 0) (.pointer none)).run Try.prog w = .ok (.bool true) w := by kernel_rfl
theorem neM (k : Nat) (a b : Operand) (w : World) : (do eqGuard .neq 66 a b (.map (some k)) (.map none); binOp .neq 66 (.map (some k)) (.map none)).run Try.prog w = .ok (.bool true) w := by kernel_rfl
theorem ltL {a b : Int} {r : Bool} (h : decide (a < b) = r) (x y : Operand) (w : World) : (do eqGuard .lss 2 x y (.int .i64 a) (.int .i64 b); binOp .lss 2 (.int .i64 a) (.int .i64 b)).run Try.prog w = .ok (.bool r) w := by
  subst h; kernel_rfl
theorem gtL {a b : Int} {r : Bool} (h : decide (b < a) = r) (x y : Operand) (w : World) : (do eqGuard .gtr 2 x y (.int .i64 a) (.int .i64 b); binOp .gtr 2 (.int .i64 a) (.int .i64 b)).run Try.prog w = .ok (.bool r) w := by
  subst h; kernel_rfl
theorem lenm {b n : Nat} {f : Int → Option Nat} (hM : OM w b f n) (ρ : Operand → Value) (x : Operand) (hx : ρ x = .map (some b)) (dst : Option Tmp) (type : TypeId) (pos : String) (after : Array Edge) (guard : Option (Nat × Bool)) : (execOp ρ { dst, op := .call { callee := .builtin .len, args := #[x], argTypes := #[66] }, type, pos, after, guard }).run Try.prog w = .ok (.value (.int .i64 (n : Int))) w := by
  unfold execOp
  simp only [resolve, invoke, builtin, Sem.run_bind, Sem.run_pure, Result.andThen_ok, List.map_toArray, List.map_cons, List.map_nil, hx, hM.len]
theorem made_n {w : World} (hS : HS D w t mb R root lk) : Calls Try.prog 30 #[pt t 0] w fun e w' => e = .returned (.bool true) ∧ Mo w w' := by
  refine w_enter 12 Try.func30 Try.ntmps30 rfl rfl ?_
  have M : Mo w w := Mo.refl _
  refine w_seq ?_
  refine w_reg ?_
  refine wl_mv (.const (.bool false)) (.bool false) (fun _ => rfl) rfl rfl ?_
  refine w_nil ?_
  refine xn_then ?_
  refine w_seq ?_
  refine w_reg ?_
  refine wl_mv (.tmp 0) (pt t 0) (fun _ => rfl) rfl rfl ?_
  refine wl_bin (fun x y => do eqGuard .neq 24 (.tmp 3) (.const (.pointer none)) x y; binOp .neq 24 x y) (.tmp 3) (.const (.pointer none)) (pt t 0) (pp none) (.bool true) (fun _ => rfl) rfl rfl (neT t _ _ _) rfl ?_
  refine wl_mv (.tmp 4) (.bool true) (fun _ => rfl) rfl rfl ?_
  refine wl_mv (.tmp 0) (pt t 0) (fun _ => rfl) rfl rfl ?_
  refine wl_nc (.tmp 6) t 0 rfl rfl rfl ?_
  refine wl_un (fun v => Instr.fieldAt 68 v 2) (.tmp 7) (pt t 0) (pt t 2) (fun _ => rfl) rfl (by kernel_rfl) rfl ?_
  refine wl_load 66 (.tmp 8) (pt t 2) (.map (some mb.m)) rfl rfl (run_one hS.tr 66 2 rfl Try.underlying66 rfl) rfl ?_
  refine wl_bin (fun x y => do eqGuard .neq 66 (.tmp 9) (.const (.map none)) x y; binOp .neq 66 x y) (.tmp 9) (.const (.map none)) (.map (some mb.m)) (.map none) (.bool true) (fun _ => rfl) rfl rfl (neM mb.m _ _ _) rfl ?_
  refine wl_pick (.tmp 5) (.tmp 10) (.const (.bool false)) true (.bool true) (fun _ => rfl) rfl rfl rfl ?_
  refine wl_mv (.tmp 11) (.bool true) (fun _ => rfl) rfl rfl ?_
  refine w_nil ?_
  refine xn_then ?_
  refine w_ret ?_
  exact w_ret1 _ (.bool true) rfl rfl ⟨rfl, M⟩
theorem len_n {w : World} {f : Int → Option Nat} {n : Nat} (hS : HS D w t mb R root lk) (hM : OM w mb.m f n) : Calls Try.prog 10 #[pt t 0] w fun e w' => e = .returned (.int .i64 (n : Int)) ∧ Mo w w' := by
  refine w_enter 11 Try.func10 Try.ntmps10 rfl rfl ?_
  have M : Mo w w := Mo.refl _
  refine w_seq ?_
  refine w_reg ?_
  refine wl_mv (.const (.int .i64 (0))) (.int .i64 (0)) (fun _ => rfl) rfl rfl ?_
  refine w_nil ?_
  refine xn_then ?_
  refine w_seq ?_
  refine w_seq ?_
  refine w_reg ?_
  refine wl_mv (.tmp 0) (pt t 0) (fun _ => rfl) rfl rfl ?_
  refine wl_call 30 [(.tmp 3)] _ [pt t 0] (.bool true) rfl rfl (fun _ _ => by kernel_rfl) (made_n hS) rfl ?_
  intro w1 hq
  replace hS := hS.mo hq
  replace hM := hM.mo hq
  replace M := M.trans hq
  clear hq
  refine wl_un (fun v => Op.unary .not v) (.tmp 4) (.bool true) (.bool false) (fun _ => rfl) rfl (by kernel_rfl) rfl ?_
  refine w_nil ?_
  refine xn_then ?_
  refine w_condF rfl ?_
  refine w_skip ?_
  refine xn_then ?_
  refine w_seq ?_
  refine w_reg ?_
  refine wl_mv (.tmp 0) (pt t 0) (fun _ => rfl) rfl rfl ?_
  refine wl_nc (.tmp 6) t 0 rfl rfl rfl ?_
  refine wl_un (fun v => Instr.fieldAt 68 v 2) (.tmp 7) (pt t 0) (pt t 2) (fun _ => rfl) rfl (by kernel_rfl) rfl ?_
  refine wl_load 66 (.tmp 8) (pt t 2) (.map (some mb.m)) rfl rfl (run_one hS.tr 66 2 rfl Try.underlying66 rfl) rfl ?_
  refine wl_val (.int .i64 ((n : Int))) (lenm hM _ _ (by exact rfl) _ _ _ _ _) rfl ?_
  refine wl_mv (.tmp 10) (.int .i64 ((n : Int))) (fun _ => rfl) rfl rfl ?_
  refine w_nil ?_
  refine xn_then ?_
  refine w_ret ?_
  exact w_ret1 _ (.int .i64 ((n : Int))) rfl rfl ⟨rfl, M⟩
theorem looked_n {w : World} (hS : HS D w t mb R root lk) : Calls Try.prog 14 #[pt t 0] w fun e w' => e = .returned (.int .i64 lk) ∧ Mo w w' := by
  refine w_enter 10 Try.func14 Try.ntmps14 rfl rfl ?_
  have M : Mo w w := Mo.refl _
  refine w_seq ?_
  refine w_reg ?_
  refine wl_mv (.const (.int .i64 (0))) (.int .i64 (0)) (fun _ => rfl) rfl rfl ?_
  refine w_nil ?_
  refine xn_then ?_
  refine w_seq ?_
  refine w_seq ?_
  refine w_reg ?_
  refine wl_mv (.tmp 0) (pt t 0) (fun _ => rfl) rfl rfl ?_
  refine wl_call 30 [(.tmp 3)] _ [pt t 0] (.bool true) rfl rfl (fun _ _ => by kernel_rfl) (made_n hS) rfl ?_
  intro w1 hq
  replace hS := hS.mo hq
  replace M := M.trans hq
  clear hq
  refine wl_un (fun v => Op.unary .not v) (.tmp 4) (.bool true) (.bool false) (fun _ => rfl) rfl (by kernel_rfl) rfl ?_
  refine w_nil ?_
  refine xn_then ?_
  refine w_condF rfl ?_
  refine w_skip ?_
  refine xn_then ?_
  refine w_seq ?_
  refine w_reg ?_
  refine wl_mv (.tmp 0) (pt t 0) (fun _ => rfl) rfl rfl ?_
  refine wl_nc (.tmp 6) t 0 rfl rfl rfl ?_
  refine wl_un (fun v => Instr.fieldAt 68 v 3) (.tmp 7) (pt t 0) (pt t 3) (fun _ => rfl) rfl (by kernel_rfl) rfl ?_
  refine wl_load 2 (.tmp 8) (pt t 3) (.int .i64 (lk)) rfl rfl (run_one hS.tr 2 3 rfl Try.underlying2 rfl) rfl ?_
  refine wl_mv (.tmp 9) (.int .i64 (lk)) (fun _ => rfl) rfl rfl ?_
  refine w_nil ?_
  refine xn_then ?_
  refine w_ret ?_
  exact w_ret1 _ (.int .i64 (lk)) rfl rfl ⟨rfl, M⟩
theorem maxI (a b : Int) (ρ : Operand → Value) (x y : Operand) (hx : ρ x = .int .i64 a) (hy : ρ y = .int .i64 b) (dst : Option Tmp) (type : TypeId) (pos : String) (after : Array Edge) (guard : Option (Nat × Bool)) (w : World) : (execOp ρ { dst, op := .call { callee := .builtin .max, args := #[x, y], argTypes := #[3, 3] }, type, pos, after, guard }).run Try.prog w = .ok (.value (.int .i64 (max a b))) w := by
  simp [go_sem, hx, hy]
theorem depth_r : ∀ (tr : T) {w : World} {u : Option Nat}, HS D w t mb R root lk → Rep mb.sc R u tr → tr.ht ≤ 100000 → Calls Try.prog 40 #[pp tr.p] w fun e w' => e = .returned (.int .i64 (tr.ht : Int)) ∧ Mo w w'
  | .e, w, _, _, _, _ => by
    refine w_enter 19 Try.func40 Try.ntmps40 rfl rfl ?_
    have M : Mo w w := Mo.refl _
    refine w_seq ?_
    refine w_reg ?_
    refine wl_mv (.const (.int .i64 (0))) (.int .i64 (0)) (fun _ => rfl) rfl rfl ?_
    refine w_nil ?_
    refine xn_then ?_
    refine w_seq ?_
    refine w_seq ?_
    refine w_reg ?_
    refine wl_mv (.tmp 0) (pp none) (fun _ => rfl) rfl rfl ?_
    refine wl_bin (fun x y => do eqGuard .eql 65 (.tmp 3) (.const (.pointer none)) x y; binOp .eql 65 x y) (.tmp 3) (.const (.pointer none)) (pp none) (pp none) (.bool true) (fun _ => rfl) rfl rfl (eqP none _ _ _) rfl ?_
    refine w_nil ?_
    refine xn_then ?_
    refine w_condT rfl ?_
    refine w_seq ?_
    refine w_reg ?_
    refine wl_mv (.const (.int .i64 (0))) (.int .i64 (0)) (fun _ => rfl) rfl rfl ?_
    refine w_nil ?_
    refine xn_then ?_
    refine w_ret ?_
    refine xr_then ?_
    exact w_ret1 _ (.int .i64 (0)) rfl rfl ⟨rfl, M⟩
  | .n k i s l r, w, u, hS, hr, hb => by
    obtain ⟨hd1, hk⟩ := hr.1
    have hht : ((T.n k i s l r).ht : Int) = 1 + max (l.ht : Int) (r.ht : Int) := by show ((1 + max l.ht r.ht : Nat) : Int) = _; omega
    simp only [T.ht] at hb
    refine w_enter 19 Try.func40 Try.ntmps40 rfl rfl ?_
    have M : Mo w w := Mo.refl _
    refine w_seq ?_
    refine w_reg ?_
    refine wl_mv (.const (.int .i64 (0))) (.int .i64 (0)) (fun _ => rfl) rfl rfl ?_
    refine w_nil ?_
    refine xn_then ?_
    refine w_seq ?_
    refine w_seq ?_
    refine w_reg ?_
    refine wl_mv (.tmp 0) (pt k 0) (fun _ => rfl) rfl rfl ?_
    refine wl_bin (fun x y => do eqGuard .eql 65 (.tmp 3) (.const (.pointer none)) x y; binOp .eql 65 x y) (.tmp 3) (.const (.pointer none)) (pt k 0) (pp none) (.bool false) (fun _ => rfl) rfl rfl (eqP (some k) _ _ _) rfl ?_
    refine w_nil ?_
    refine xn_then ?_
    refine w_condF rfl ?_
    refine w_skip ?_
    refine xn_then ?_
    refine w_seq ?_
    refine w_any 11 [.inl (pt k 0), .inl (pt k 0), .inl (pt k 3), .inl (pt k 3), .inl (pp l.p), .inl (.int .i64 ((l.ht : Int))), .inl (pt k 0), .inl (pt k 0), .inl (pt k 3), .inl (pt k 4), .inl (pp r.p)] [] (by kernel_rfl) (by kernel_rfl) (by kernel_rfl) (by kernel_rfl) rfl (by kernel_rfl) (by kernel_rfl) late_nil ?_ ?_ ?_
    · exact Ds.none rfl
    · refine ea_cons ?_ (ea_cons ?_ (ea_cons ?_ (ea_cons ?_ (ea_cons ?_ (ea_cons ?_ (ea_cons ?_ (ea_cons ?_ (ea_cons ?_ (ea_cons ?_ (ea_cons ?_ (ea_nil)))))))))))
      · exact og_eq (pt k 0) rfl (fun f wf hq hd K hK => go_run rfl (wo_mv (.tmp 0) (pt k 0) (fun _ => rfl) rfl (hK _ (Mo.refl _))))
      · exact og_eq (pt k 0) rfl (fun f wf hq hd K hK => go_run rfl (wo_nc (.tmp 5) k 0 rfl (hd 0 rfl) (hK _ (Mo.refl _))))
      · exact og_eq (pt k 3) rfl (fun f wf hq hd K hK => go_run rfl (wo_un (fun v => Instr.fieldAt 93 v 2) (.tmp 6) (pt k 0) (pt k 3) (fun _ => rfl) (hd 1 rfl) (by kernel_rfl) (hK _ (Mo.refl _))))
      · exact og_eq (pt k 3) rfl (fun f wf hq hd K hK => go_run rfl (wo_bin (fun x y => Instr.indexAt 91 x y) (.tmp 7) (.const (.int .i64 (0))) (pt k 3) (.int .i64 (0)) (pt k 3) (fun _ => rfl) (hd 2 rfl) rfl (by kernel_rfl) (hK _ (Mo.refl _))))
      · exact og_eq (pp l.p) rfl (fun f wf hq hd K hK => have hS := hS.mo hq; go_run rfl (wo_load 65 (.tmp 8) (pt k 3) (pp l.p) rfl (hd 3 rfl) (run_one (hS.rc k _ hk) 65 3 rfl Try.underlying65 rfl) (hK _ (Mo.refl _))))
      · exact og_eq (.int .i64 ((l.ht : Int))) rfl (fun f wf hq hd K hK => have hS := hS.mo hq; go_run rfl (wo_call 40 [(.tmp 9)] _ [pp l.p] (.int .i64 ((l.ht : Int))) rfl (li1 (hd 4 rfl)) (fun _ _ => by kernel_rfl) (depth_r l hS hr.2.1 (by omega)) hK))
      · exact og_eq (pt k 0) rfl (fun f wf hq hd K hK => go_run rfl (wo_mv (.tmp 0) (pt k 0) (fun _ => rfl) rfl (hK _ (Mo.refl _))))
      · exact og_eq (pt k 0) rfl (fun f wf hq hd K hK => go_run rfl (wo_nc (.tmp 11) k 0 rfl (hd 6 rfl) (hK _ (Mo.refl _))))
      · exact og_eq (pt k 3) rfl (fun f wf hq hd K hK => go_run rfl (wo_un (fun v => Instr.fieldAt 93 v 2) (.tmp 12) (pt k 0) (pt k 3) (fun _ => rfl) (hd 7 rfl) (by kernel_rfl) (hK _ (Mo.refl _))))
      · exact og_eq (pt k 4) rfl (fun f wf hq hd K hK => go_run rfl (wo_bin (fun x y => Instr.indexAt 91 x y) (.tmp 13) (.const (.int .i64 (1))) (pt k 3) (.int .i64 (1)) (pt k 4) (fun _ => rfl) (hd 8 rfl) rfl (by kernel_rfl) (hK _ (Mo.refl _))))
      · exact og_eq (pp r.p) rfl (fun f wf hq hd K hK => have hS := hS.mo hq; go_run rfl (wo_load 65 (.tmp 14) (pt k 4) (pp r.p) rfl (hd 9 rfl) (run_one (hS.rc k _ hk) 65 4 rfl Try.underlying65 rfl) (hK _ (Mo.refl _))))
    intro kf1 w1 hq _ _
    replace hS := hS.mo hq
    replace M := M.trans hq
    clear hq
    refine wl_call 40 [(.tmp 15)] _ [pp r.p] (.int .i64 ((r.ht : Int))) rfl rfl (fun _ _ => by kernel_rfl) (depth_r r hS hr.2.2 (by omega)) rfl ?_
    intro w2 hq
    replace hS := hS.mo hq
    replace M := M.trans hq
    clear hq
    refine wl_val (.int .i64 (max (l.ht : Int) (r.ht : Int))) (maxI _ _ _ _ _ (by exact rfl) (by exact rfl) _ _ _ _ _ _) rfl ?_
    refine wl_bin (fun x y => do eqGuard .add 3 (.const (.int .i64 (1))) (.tmp 17) x y; binOp .add 3 x y) (.const (.int .i64 (1))) (.tmp 17) (.int .i64 (1)) (.int .i64 (max (l.ht : Int) (r.ht : Int))) (.int .i64 (1 + max (l.ht : Int) (r.ht : Int))) (fun _ => rfl) rfl rfl (addI (by omega) (by omega) _ _ _) rfl ?_
    refine wl_mv (.tmp 18) (.int .i64 (1 + max (l.ht : Int) (r.ht : Int))) (fun _ => rfl) rfl rfl ?_
    refine w_nil ?_
    refine xn_then ?_
    refine w_ret ?_
    exact w_ret1 _ (.int .i64 (1 + max (l.ht : Int) (r.ht : Int))) rfl rfl ⟨by rw [hht], M⟩
theorem depth_n {w : World} {tr : T} (hT : TS D w t mb [] tr lk) (hb : tr.ht ≤ 100000) : Calls Try.prog 19 #[pt t 0] w fun e w' => e = .returned (.int .i64 (tr.ht : Int)) ∧ Mo w w' := by
  obtain ⟨R, root, hS, hAp, hC, hR, hn⟩ := hT
  replace hC : root = tr.p := hC
  subst hC
  refine w_enter 11 Try.func19 Try.ntmps19 rfl rfl ?_
  have M : Mo w w := Mo.refl _
  refine w_seq ?_
  refine w_reg ?_
  refine wl_mv (.const (.int .i64 (0))) (.int .i64 (0)) (fun _ => rfl) rfl rfl ?_
  refine w_nil ?_
  refine xn_then ?_
  refine w_seq ?_
  refine w_seq ?_
  refine w_reg ?_
  refine wl_mv (.tmp 0) (pt t 0) (fun _ => rfl) rfl rfl ?_
  refine wl_call 30 [(.tmp 3)] _ [pt t 0] (.bool true) rfl rfl (fun _ _ => by kernel_rfl) (made_n hS) rfl ?_
  intro w1 hq
  replace hS := hS.mo hq
  replace M := M.trans hq
  clear hq
  refine wl_un (fun v => Op.unary .not v) (.tmp 4) (.bool true) (.bool false) (fun _ => rfl) rfl (by kernel_rfl) rfl ?_
  refine w_nil ?_
  refine xn_then ?_
  refine w_condF rfl ?_
  refine w_skip ?_
  refine xn_then ?_
  refine w_seq ?_
  refine w_reg ?_
  refine wl_mv (.tmp 0) (pt t 0) (fun _ => rfl) rfl rfl ?_
  refine wl_nc (.tmp 6) t 0 rfl rfl rfl ?_
  refine wl_un (fun v => Instr.fieldAt 68 v 1) (.tmp 7) (pt t 0) (pt t 1) (fun _ => rfl) rfl (by kernel_rfl) rfl ?_
  refine wl_load 65 (.tmp 8) (pt t 1) (pp tr.p) rfl rfl (run_one hS.tr 65 1 rfl Try.underlying65 rfl) rfl ?_
  refine wl_call 40 [(.tmp 9)] _ [pp tr.p] (.int .i64 ((tr.ht : Int))) rfl rfl (fun _ _ => by kernel_rfl) (depth_r tr hS hR hb) rfl ?_
  intro w2 hq
  replace hS := hS.mo hq
  replace M := M.trans hq
  clear hq
  refine wl_mv (.tmp 10) (.int .i64 ((tr.ht : Int))) (fun _ => rfl) rfl rfl ?_
  refine w_nil ?_
  refine xn_then ?_
  refine w_ret ?_
  exact w_ret1 _ (.int .i64 ((tr.ht : Int))) rfl rfl ⟨rfl, M⟩
theorem FT.lkd {w' : World} {tr : T} {lk' : Int} (h : FT D w t mb tr lk) (hT : TS D w' t mb [] tr lk') (hM : OM w' mb.m (adr tr.kv) tr.kv.length) (hl : lk ≤ lk') : FT D w' t mb tr lk' := ⟨hT, hM, h.ok, h.nd, h.rg, h.le, Int.le_trans h.l0 hl, h.hm⟩
theorem ids_at {C : Cx} {k : Nat} {i : Py} {s : Int} {l r : T} : (plug C (.n k i s l r)).ids[(l.sz + ix C).toNat]? = some i := by
  have hkv : (plug C (.n k i s l r)).ids = (preR C ++ l.ids) ++ i :: (r.ids ++ posR C) := by rw [plug_rows]; simp [T.ids]
  have h1 := preR_len C
  have h2 := T.sz_ids l
  rw [hkv, List.getElem?_append_right (by simp; omega)]
  rw [show (l.sz + ix C).toNat - (preR C ++ l.ids).length = 0 by simp; omega]
  rfl
theorem delete_a {tr : T} {id : Int} (h : FT D w t mb tr lk) (hi : -9223372036854775808 ≤ id ∧ id ≤ 9223372036854775807) (hq : adr tr.kv id = none) : Calls Try.prog 15 #[pt t 0, .int .i64 id] w fun e w' => e = .returned (.tuple #[.int .i64 0, .int .i64 4]) ∧ Mo w w' := by
  have hw : (Lit.int .i64 id).wf = true := WalkArith.wf_i64 ⟨hi.1, hi.2⟩
  obtain ⟨R, root, hS, hAp, hC, hR, hn⟩ := h.ts
  have hM := h.om
  refine w_enter 26 Try.func15 Try.ntmps15 rfl rfl ?_
  have M : Mo w w := Mo.refl _
  refine w_seq ?_
  refine w_reg ?_
  refine wl_mv (.const (.int .i64 (0))) (.int .i64 (0)) (fun _ => rfl) rfl rfl ?_
  refine wl_mv (.const (.int .i64 (0))) (.int .i64 (0)) (fun _ => rfl) rfl rfl ?_
  refine w_nil ?_
  refine xn_then ?_
  refine w_seq ?_
  refine w_seq ?_
  refine w_reg ?_
  refine wl_mv (.tmp 0) (pt t 0) (fun _ => rfl) rfl rfl ?_
  refine wl_call 30 [(.tmp 8)] _ [pt t 0] (.bool true) rfl rfl (fun _ _ => by kernel_rfl) (made_n hS) rfl ?_
  intro w1 hq
  replace hS := hS.mo hq
  replace hM := hM.mo hq
  replace M := M.trans hq
  clear hq
  refine wl_un (fun v => Op.unary .not v) (.tmp 9) (.bool true) (.bool false) (fun _ => rfl) rfl (by kernel_rfl) rfl ?_
  refine w_nil ?_
  refine xn_then ?_
  refine w_condF rfl ?_
  refine w_skip ?_
  refine xn_then ?_
  refine w_seq ?_
  refine w_reg ?_
  refine wl_mv (.tmp 0) (pt t 0) (fun _ => rfl) rfl rfl ?_
  refine wl_nc (.tmp 11) t 0 rfl rfl rfl ?_
  refine wl_un (fun v => Instr.fieldAt 68 v 2) (.tmp 12) (pt t 0) (pt t 2) (fun _ => rfl) rfl (by kernel_rfl) rfl ?_
  refine wl_load 66 (.tmp 13) (pt t 2) (.map (some mb.m)) rfl rfl (run_one hS.tr 66 2 rfl Try.underlying66 rfl) rfl ?_
  refine wl_mv (.tmp 1) (.int .i64 (id)) (fun _ => rfl) rfl rfl ?_
  refine wl_bin (fun x y => Instr.lookup 66 x y false) (.tmp 14) (.tmp 15) (.map (some mb.m)) (.int .i64 (id)) (pp none) (fun _ => rfl) rfl rfl (by have := hM.look hw; rw [hq] at this; exact this) rfl ?_
  refine wl_mv (.tmp 16) (pp none) (fun _ => rfl) rfl rfl ?_
  refine w_nil ?_
  refine xn_then ?_
  refine w_seq ?_
  refine w_seq ?_
  refine w_reg ?_
  refine wl_mv (.tmp 6) (pp none) (fun _ => rfl) rfl rfl ?_
  refine wl_bin (fun x y => do eqGuard .eql 65 (.tmp 17) (.const (.pointer none)) x y; binOp .eql 65 x y) (.tmp 17) (.const (.pointer none)) (pp none) (pp none) (.bool true) (fun _ => rfl) rfl rfl (eqP none _ _ _) rfl ?_
  refine w_nil ?_
  refine xn_then ?_
  refine w_condT rfl ?_
  refine w_seq ?_
  refine w_reg ?_
  refine wl_mv (.const (.int .i64 (0))) (.int .i64 (0)) (fun _ => rfl) rfl rfl ?_
  refine wl_mv (.const (.int .i64 (4))) (.int .i64 (4)) (fun _ => rfl) rfl rfl ?_
  refine w_nil ?_
  refine xn_then ?_
  refine w_ret ?_
  refine xr_then ?_
  exact w_ret2 _ _ (.int .i64 (0)) (.int .i64 (4)) rfl rfl rfl ⟨rfl, M⟩
theorem delete_ok {tr : T} {id : Int} (h : FT D w t mb tr lk) (hi : -9223372036854775808 ≤ id ∧ id ≤ 9223372036854775807) {k : Nat} (hq : adr tr.kv id = some k) (hlk : lk ≤ 2900000000000000000) : Calls Try.prog 15 #[pt t 0, .int .i64 id] w fun e w' => ∃ p y tr' lk' D', e = .returned (.tuple #[.int .i64 p, .int .i64 0]) ∧ 0 ≤ p ∧ tr.ids[p.toNat]? = some y ∧ y.i = id ∧ Del tr y p tr' ∧ FT D' w' t mb tr' lk' ∧ lk ≤ lk' ∧ lk' ≤ lk + 3 + 11 * tr.ht ∧ Mk (fun j => D j ∨ j = mb.m) w w' ∧ ∀ j, D' j → D j := by
  have hw : (Lit.int .i64 id).wf = true := WalkArith.wf_i64 ⟨hi.1, hi.2⟩
  obtain ⟨C0, y0, s0, l0, r0, hpl, hy0⟩ := kv_focus tr (adr_some hq)
  have ok0 := plug_okC C0 (tr := .n k y0 s0 l0 r0) (by rw [hpl]; exact h.ok)
  have hsz := plug_sz C0 (.n k y0 s0 l0 r0)
  have hph := plug_ht C0 (.n k y0 s0 l0 r0)
  rw [hpl] at hsz hph
  simp only [T.sz] at hsz
  have hph1 : 1 ≤ (T.n k y0 s0 l0 r0).ht := by unfold T.ht; omega
  have hle := h.le
  have hl00 := h.l0
  have hhl := tr.ht_le
  have hcn := csz_nn C0; have hl0n := T.sz_nn l0; have hr0n := T.sz_nn r0
  obtain ⟨R, root, hS, hAp, hC, hR, hn⟩ := h.ts
  have hM := h.om
  have hix := pre_len C0
  refine w_enter 26 Try.func15 Try.ntmps15 rfl rfl ?_
  have M : Mk (fun j => D j ∨ j = mb.m) w w := Mk.refl _ _
  refine w_seq ?_
  refine w_reg ?_
  refine wl_mv (.const (.int .i64 (0))) (.int .i64 (0)) (fun _ => rfl) rfl rfl ?_
  refine wl_mv (.const (.int .i64 (0))) (.int .i64 (0)) (fun _ => rfl) rfl rfl ?_
  refine w_nil ?_
  refine xn_then ?_
  refine w_seq ?_
  refine w_seq ?_
  refine w_reg ?_
  refine wl_mv (.tmp 0) (pt t 0) (fun _ => rfl) rfl rfl ?_
  refine wl_call 30 [(.tmp 8)] _ [pt t 0] (.bool true) rfl rfl (fun _ _ => by kernel_rfl) (made_n hS) rfl ?_
  intro w1 hq
  replace hS := hS.mo hq
  replace hM := hM.mo hq
  replace M := M.trans hq
  clear hq
  refine wl_un (fun v => Op.unary .not v) (.tmp 9) (.bool true) (.bool false) (fun _ => rfl) rfl (by kernel_rfl) rfl ?_
  refine w_nil ?_
  refine xn_then ?_
  refine w_condF rfl ?_
  refine w_skip ?_
  refine xn_then ?_
  refine w_seq ?_
  refine w_reg ?_
  refine wl_mv (.tmp 0) (pt t 0) (fun _ => rfl) rfl rfl ?_
  refine wl_nc (.tmp 11) t 0 rfl rfl rfl ?_
  refine wl_un (fun v => Instr.fieldAt 68 v 2) (.tmp 12) (pt t 0) (pt t 2) (fun _ => rfl) rfl (by kernel_rfl) rfl ?_
  refine wl_load 66 (.tmp 13) (pt t 2) (.map (some mb.m)) rfl rfl (run_one hS.tr 66 2 rfl Try.underlying66 rfl) rfl ?_
  refine wl_mv (.tmp 1) (.int .i64 (id)) (fun _ => rfl) rfl rfl ?_
  refine wl_bin (fun x y => Instr.lookup 66 x y false) (.tmp 14) (.tmp 15) (.map (some mb.m)) (.int .i64 (id)) (pt k 0) (fun _ => rfl) rfl rfl (by have := hM.look hw; rw [hq] at this; exact this) rfl ?_
  refine wl_mv (.tmp 16) (pt k 0) (fun _ => rfl) rfl rfl ?_
  refine w_nil ?_
  refine xn_then ?_
  refine w_seq ?_
  refine w_seq ?_
  refine w_reg ?_
  refine wl_mv (.tmp 6) (pt k 0) (fun _ => rfl) rfl rfl ?_
  refine wl_bin (fun x y => do eqGuard .eql 65 (.tmp 17) (.const (.pointer none)) x y; binOp .eql 65 x y) (.tmp 17) (.const (.pointer none)) (pt k 0) (pp none) (.bool false) (fun _ => rfl) rfl rfl (eqP (some k) _ _ _) rfl ?_
  refine w_nil ?_
  refine xn_then ?_
  refine w_condF rfl ?_
  refine w_skip ?_
  refine xn_then ?_
  refine w_seq ?_
  refine w_reg ?_
  refine wl_mv (.tmp 0) (pt t 0) (fun _ => rfl) rfl rfl ?_
  refine wl_mv (.tmp 6) (pt k 0) (fun _ => rfl) rfl rfl ?_
  refine wl_callg 37 [(.tmp 19), (.tmp 20)] _ [pt t 0, pt k 0] (.int .i64 (l0.sz + ix C0)) rfl rfl (fun _ _ => by kernel_rfl) (place_n (C := C0) (k := k) (i := y0) (s := s0) (l0 := l0) (r0 := r0) (R := R) (root := root) (by rw [hpl]; exact ⟨hS, hAp, hC, hR, hn⟩) ok0.2 ok0.1 (by omega) ⟨by omega, by omega⟩) rfl ?_
  intro w2 hF
  obtain ⟨lk2, hk1, hk2, hS9, hM2⟩ := hF
  replace hM := hM.mk hM2 hS.nb
  replace M := M.tr hM2 (fun _ _ e => Or.inl e)
  replace hS := hS9
  clear hM2 hS9
  have hF1 := h.lkd ⟨R, root, ⟨hS, hAp, hC, hR, hn⟩⟩ hM hk1
  refine wl_mv (.tmp 21) (.int .i64 (l0.sz + ix C0)) (fun _ => rfl) rfl rfl ?_
  refine w_nil ?_
  refine xn_then ?_
  refine w_seq ?_
  refine w_reg ?_
  refine wl_mv (.tmp 0) (pt t 0) (fun _ => rfl) rfl rfl ?_
  refine wl_mv (.tmp 6) (pt k 0) (fun _ => rfl) rfl rfl ?_
  refine wl_callg 38 [(.tmp 22), (.tmp 23)] _ [pt t 0, pt k 0] (.tuple #[]) rfl rfl (fun _ _ => by kernel_rfl) (take_f (C := C0) (k := k) (i := y0) (s := s0) (l := l0) (r := r0) (by rw [hpl]; exact hF1) (by omega)) rfl ?_
  intro w3 hF
  rw [hpl] at hF
  obtain ⟨tr2, lk3, D2, hD, hF2, hk3, hk4, hM2, hD1, hD2, hRv⟩ := hF
  replace M := M.same hM2
  clear hM2
  refine w_nil ?_
  refine xn_then ?_
  refine w_seq ?_
  refine w_reg ?_
  refine wl_mv (.tmp 7) (.int .i64 (l0.sz + ix C0)) (fun _ => rfl) rfl rfl ?_
  refine wl_mv (.tmp 25) (.int .i64 (l0.sz + ix C0)) (fun _ => rfl) rfl rfl ?_
  refine wl_mv (.const (.int .i64 (0))) (.int .i64 (0)) (fun _ => rfl) rfl rfl ?_
  refine w_nil ?_
  refine xn_then ?_
  refine w_ret ?_
  exact w_ret2 _ _ (.int .i64 (l0.sz + ix C0)) (.int .i64 (0)) rfl rfl rfl ⟨l0.sz + ix C0, y0, tr2, lk3, D2, rfl, by omega, by rw [← hpl]; exact ids_at, hy0, hD, hF2, by omega, by omega, M, hD1⟩
end
end G
end Go.Proofs.Ythfemlhmnjfjiaa
/-
  The tree's Move.
-/
namespace Go.Proofs.Ythfemlhmnjfjiaa
open Go.RowKit
namespace G
section
variable {D : Nat → Prop} {w : World} {t : Nat} {mb : Hd} {R : Mp} {root : Option Nat} {lk : Int}
theorem move_a {tr : T} {id at0 : Int} (h : FT D w t mb tr lk) (hi : -9223372036854775808 ≤ id ∧ id ≤ 9223372036854775807) (hq : adr tr.kv id = none) : Calls Try.prog 16 #[pt t 0, .int .i64 id, .int .i64 at0] w fun e w' => e = .returned (.tuple #[.int .i64 0, .int .i64 4]) ∧ Mo w w' := by
  have hw : (Lit.int .i64 id).wf = true := WalkArith.wf_i64 ⟨hi.1, hi.2⟩
  obtain ⟨R, root, hS, hAp, hC, hR, hn⟩ := h.ts
  have hM := h.om
  refine w_enter 45 Try.func16 Try.ntmps16 rfl rfl ?_
  have M : Mo w w := Mo.refl _
  refine w_seq ?_
  refine w_reg ?_
  refine wl_mv (.const (.int .i64 (0))) (.int .i64 (0)) (fun _ => rfl) rfl rfl ?_
  refine wl_mv (.const (.int .i64 (0))) (.int .i64 (0)) (fun _ => rfl) rfl rfl ?_
  refine w_nil ?_
  refine xn_then ?_
  refine w_seq ?_
  refine w_seq ?_
  refine w_reg ?_
  refine wl_mv (.tmp 0) (pt t 0) (fun _ => rfl) rfl rfl ?_
  refine wl_call 30 [(.tmp 11)] _ [pt t 0] (.bool true) rfl rfl (fun _ _ => by kernel_rfl) (made_n hS) rfl ?_
  intro w1 hq
  replace hS := hS.mo hq
  replace hM := hM.mo hq
  replace M := M.trans hq
  clear hq
  refine wl_un (fun v => Op.unary .not v) (.tmp 12) (.bool true) (.bool false) (fun _ => rfl) rfl (by kernel_rfl) rfl ?_
  refine w_nil ?_
  refine xn_then ?_
  refine w_condF rfl ?_
  refine w_skip ?_
  refine xn_then ?_
  refine w_seq ?_
  refine w_reg ?_
  refine wl_mv (.tmp 0) (pt t 0) (fun _ => rfl) rfl rfl ?_
  refine wl_nc (.tmp 14) t 0 rfl rfl rfl ?_
  refine wl_un (fun v => Instr.fieldAt 68 v 2) (.tmp 15) (pt t 0) (pt t 2) (fun _ => rfl) rfl (by kernel_rfl) rfl ?_
  refine wl_load 66 (.tmp 16) (pt t 2) (.map (some mb.m)) rfl rfl (run_one hS.tr 66 2 rfl Try.underlying66 rfl) rfl ?_
  refine wl_mv (.tmp 1) (.int .i64 (id)) (fun _ => rfl) rfl rfl ?_
  refine wl_bin (fun x y => Instr.lookup 66 x y false) (.tmp 17) (.tmp 18) (.map (some mb.m)) (.int .i64 (id)) (pp none) (fun _ => rfl) rfl rfl (by have := hM.look hw; rw [hq] at this; exact this) rfl ?_
  refine wl_mv (.tmp 19) (pp none) (fun _ => rfl) rfl rfl ?_
  refine w_nil ?_
  refine xn_then ?_
  refine w_seq ?_
  refine w_seq ?_
  refine w_reg ?_
  refine wl_mv (.tmp 8) (pp none) (fun _ => rfl) rfl rfl ?_
  refine wl_bin (fun x y => do eqGuard .eql 65 (.tmp 20) (.const (.pointer none)) x y; binOp .eql 65 x y) (.tmp 20) (.const (.pointer none)) (pp none) (pp none) (.bool true) (fun _ => rfl) rfl rfl (eqP none _ _ _) rfl ?_
  refine w_nil ?_
  refine xn_then ?_
  refine w_condT rfl ?_
  refine w_seq ?_
  refine w_reg ?_
  refine wl_mv (.const (.int .i64 (0))) (.int .i64 (0)) (fun _ => rfl) rfl rfl ?_
  refine wl_mv (.const (.int .i64 (4))) (.int .i64 (4)) (fun _ => rfl) rfl rfl ?_
  refine w_nil ?_
  refine xn_then ?_
  refine w_ret ?_
  refine xr_then ?_
  exact w_ret2 _ _ (.int .i64 (0)) (.int .i64 (4)) rfl rfl rfl ⟨rfl, M⟩
theorem move_b {tr : T} {id at0 : Int} (h : FT D w t mb tr lk) (hi : -9223372036854775808 ≤ id ∧ id ≤ 9223372036854775807) {k : Nat} (hq : adr tr.kv id = some k) (q4 : decide (at0 < 0) = true) : Calls Try.prog 16 #[pt t 0, .int .i64 id, .int .i64 at0] w fun e w' => e = .returned (.tuple #[.int .i64 0, .int .i64 1]) ∧ Mo w w' := by
  have hw : (Lit.int .i64 id).wf = true := WalkArith.wf_i64 ⟨hi.1, hi.2⟩
  obtain ⟨R, root, hS, hAp, hC, hR, hn⟩ := h.ts
  have hM := h.om
  refine w_enter 45 Try.func16 Try.ntmps16 rfl rfl ?_
  have M : Mo w w := Mo.refl _
  refine w_seq ?_
  refine w_reg ?_
  refine wl_mv (.const (.int .i64 (0))) (.int .i64 (0)) (fun _ => rfl) rfl rfl ?_
  refine wl_mv (.const (.int .i64 (0))) (.int .i64 (0)) (fun _ => rfl) rfl rfl ?_
  refine w_nil ?_
  refine xn_then ?_
  refine w_seq ?_
  refine w_seq ?_
  refine w_reg ?_
  refine wl_mv (.tmp 0) (pt t 0) (fun _ => rfl) rfl rfl ?_
  refine wl_call 30 [(.tmp 11)] _ [pt t 0] (.bool true) rfl rfl (fun _ _ => by kernel_rfl) (made_n hS) rfl ?_
  intro w1 hq
  replace hS := hS.mo hq
  replace hM := hM.mo hq
  replace M := M.trans hq
  clear hq
  refine wl_un (fun v => Op.unary .not v) (.tmp 12) (.bool true) (.bool false) (fun _ => rfl) rfl (by kernel_rfl) rfl ?_
  refine w_nil ?_
  refine xn_then ?_
  refine w_condF rfl ?_
  refine w_skip ?_
  refine xn_then ?_
  refine w_seq ?_
  refine w_reg ?_
  refine wl_mv (.tmp 0) (pt t 0) (fun _ => rfl) rfl rfl ?_
  refine wl_nc (.tmp 14) t 0 rfl rfl rfl ?_
  refine wl_un (fun v => Instr.fieldAt 68 v 2) (.tmp 15) (pt t 0) (pt t 2) (fun _ => rfl) rfl (by kernel_rfl) rfl ?_
  refine wl_load 66 (.tmp 16) (pt t 2) (.map (some mb.m)) rfl rfl (run_one hS.tr 66 2 rfl Try.underlying66 rfl) rfl ?_
  refine wl_mv (.tmp 1) (.int .i64 (id)) (fun _ => rfl) rfl rfl ?_
  refine wl_bin (fun x y => Instr.lookup 66 x y false) (.tmp 17) (.tmp 18) (.map (some mb.m)) (.int .i64 (id)) (pt k 0) (fun _ => rfl) rfl rfl (by have := hM.look hw; rw [hq] at this; exact this) rfl ?_
  refine wl_mv (.tmp 19) (pt k 0) (fun _ => rfl) rfl rfl ?_
  refine w_nil ?_
  refine xn_then ?_
  refine w_seq ?_
  refine w_seq ?_
  refine w_reg ?_
  refine wl_mv (.tmp 8) (pt k 0) (fun _ => rfl) rfl rfl ?_
  refine wl_bin (fun x y => do eqGuard .eql 65 (.tmp 20) (.const (.pointer none)) x y; binOp .eql 65 x y) (.tmp 20) (.const (.pointer none)) (pt k 0) (pp none) (.bool false) (fun _ => rfl) rfl rfl (eqP (some k) _ _ _) rfl ?_
  refine w_nil ?_
  refine xn_then ?_
  refine w_condF rfl ?_
  refine w_skip ?_
  refine xn_then ?_
  refine w_seq ?_
  refine w_seq ?_
  refine w_reg ?_
  refine wl_mv (.tmp 2) (.int .i64 (at0)) (fun _ => rfl) rfl rfl ?_
  refine wl_bin (fun x y => do eqGuard .lss 3 (.tmp 22) (.const (.int .i64 (0))) x y; binOp .lss 3 x y) (.tmp 22) (.const (.int .i64 (0))) (.int .i64 (at0)) (.int .i64 (0)) (.bool true) (fun _ => rfl) rfl rfl (ltI q4 _ _ _) rfl ?_
  refine wl_mv (.tmp 23) (.bool true) (fun _ => rfl) rfl rfl ?_
  refine wl_skip rfl ?_
  refine wl_skip rfl ?_
  refine wl_skip rfl ?_
  refine wl_skip rfl ?_
  refine wl_pick (.tmp 24) (.const (.bool true)) (.tmp 28) true (.bool true) (fun _ => rfl) rfl rfl rfl ?_
  refine w_nil ?_
  refine xn_then ?_
  refine w_condT rfl ?_
  refine w_seq ?_
  refine w_reg ?_
  refine wl_mv (.const (.int .i64 (0))) (.int .i64 (0)) (fun _ => rfl) rfl rfl ?_
  refine wl_mv (.const (.int .i64 (1))) (.int .i64 (1)) (fun _ => rfl) rfl rfl ?_
  refine w_nil ?_
  refine xn_then ?_
  refine w_ret ?_
  refine xr_then ?_
  exact w_ret2 _ _ (.int .i64 (0)) (.int .i64 (1)) rfl rfl rfl ⟨rfl, M⟩
theorem move_c {tr : T} {id at0 : Int} (h : FT D w t mb tr lk) (hi : -9223372036854775808 ≤ id ∧ id ≤ 9223372036854775807) {k : Nat} (hq : adr tr.kv id = some k) (q4 : decide (at0 < 0) = false) (q6 : decide ((tr.kv.length : Int) ≤ at0) = true) : Calls Try.prog 16 #[pt t 0, .int .i64 id, .int .i64 at0] w fun e w' => e = .returned (.tuple #[.int .i64 0, .int .i64 1]) ∧ Mo w w' := by
  have hw : (Lit.int .i64 id).wf = true := WalkArith.wf_i64 ⟨hi.1, hi.2⟩
  obtain ⟨R, root, hS, hAp, hC, hR, hn⟩ := h.ts
  have hM := h.om
  refine w_enter 45 Try.func16 Try.ntmps16 rfl rfl ?_
  have M : Mo w w := Mo.refl _
  refine w_seq ?_
  refine w_reg ?_
  refine wl_mv (.const (.int .i64 (0))) (.int .i64 (0)) (fun _ => rfl) rfl rfl ?_
  refine wl_mv (.const (.int .i64 (0))) (.int .i64 (0)) (fun _ => rfl) rfl rfl ?_
  refine w_nil ?_
  refine xn_then ?_
  refine w_seq ?_
  refine w_seq ?_
  refine w_reg ?_
  refine wl_mv (.tmp 0) (pt t 0) (fun _ => rfl) rfl rfl ?_
  refine wl_call 30 [(.tmp 11)] _ [pt t 0] (.bool true) rfl rfl (fun _ _ => by kernel_rfl) (made_n hS) rfl ?_
  intro w1 hq
  replace hS := hS.mo hq
  replace hM := hM.mo hq
  replace M := M.trans hq
  clear hq
  refine wl_un (fun v => Op.unary .not v) (.tmp 12) (.bool true) (.bool false) (fun _ => rfl) rfl (by kernel_rfl) rfl ?_
  refine w_nil ?_
  refine xn_then ?_
  refine w_condF rfl ?_
  refine w_skip ?_
  refine xn_then ?_
  refine w_seq ?_
  refine w_reg ?_
  refine wl_mv (.tmp 0) (pt t 0) (fun _ => rfl) rfl rfl ?_
  refine wl_nc (.tmp 14) t 0 rfl rfl rfl ?_
  refine wl_un (fun v => Instr.fieldAt 68 v 2) (.tmp 15) (pt t 0) (pt t 2) (fun _ => rfl) rfl (by kernel_rfl) rfl ?_
  refine wl_load 66 (.tmp 16) (pt t 2) (.map (some mb.m)) rfl rfl (run_one hS.tr 66 2 rfl Try.underlying66 rfl) rfl ?_
  refine wl_mv (.tmp 1) (.int .i64 (id)) (fun _ => rfl) rfl rfl ?_
  refine wl_bin (fun x y => Instr.lookup 66 x y false) (.tmp 17) (.tmp 18) (.map (some mb.m)) (.int .i64 (id)) (pt k 0) (fun _ => rfl) rfl rfl (by have := hM.look hw; rw [hq] at this; exact this) rfl ?_
  refine wl_mv (.tmp 19) (pt k 0) (fun _ => rfl) rfl rfl ?_
  refine w_nil ?_
  refine xn_then ?_
  refine w_seq ?_
  refine w_seq ?_
  refine w_reg ?_
  refine wl_mv (.tmp 8) (pt k 0) (fun _ => rfl) rfl rfl ?_
  refine wl_bin (fun x y => do eqGuard .eql 65 (.tmp 20) (.const (.pointer none)) x y; binOp .eql 65 x y) (.tmp 20) (.const (.pointer none)) (pt k 0) (pp none) (.bool false) (fun _ => rfl) rfl rfl (eqP (some k) _ _ _) rfl ?_
  refine w_nil ?_
  refine xn_then ?_
  refine w_condF rfl ?_
  refine w_skip ?_
  refine xn_then ?_
  refine w_seq ?_
  refine w_seq ?_
  refine w_reg ?_
  refine wl_mv (.tmp 2) (.int .i64 (at0)) (fun _ => rfl) rfl rfl ?_
  refine wl_bin (fun x y => do eqGuard .lss 3 (.tmp 22) (.const (.int .i64 (0))) x y; binOp .lss 3 x y) (.tmp 22) (.const (.int .i64 (0))) (.int .i64 (at0)) (.int .i64 (0)) (.bool false) (fun _ => rfl) rfl rfl (ltI q4 _ _ _) rfl ?_
  refine wl_mv (.tmp 23) (.bool false) (fun _ => rfl) rfl rfl ?_
  refine wl_mv (.tmp 2) (.int .i64 (at0)) (fun _ => rfl) rfl rfl ?_
  refine wl_mv (.tmp 0) (pt t 0) (fun _ => rfl) rfl rfl ?_
  refine wl_call 10 [(.tmp 26)] _ [pt t 0] (.int .i64 ((tr.kv.length : Int))) rfl rfl (fun _ _ => by kernel_rfl) (len_n hS hM) rfl ?_
  intro w2 hq
  replace hS := hS.mo hq
  replace hM := hM.mo hq
  replace M := M.trans hq
  clear hq
  refine wl_bin (fun x y => do eqGuard .geq 3 (.tmp 25) (.tmp 27) x y; binOp .geq 3 x y) (.tmp 25) (.tmp 27) (.int .i64 (at0)) (.int .i64 ((tr.kv.length : Int))) (.bool true) (fun _ => rfl) rfl rfl (geI q6 _ _ _) rfl ?_
  refine wl_pick (.tmp 24) (.const (.bool true)) (.tmp 28) false (.bool true) (fun _ => rfl) rfl rfl rfl ?_
  refine w_nil ?_
  refine xn_then ?_
  refine w_condT rfl ?_
  refine w_seq ?_
  refine w_reg ?_
  refine wl_mv (.const (.int .i64 (0))) (.int .i64 (0)) (fun _ => rfl) rfl rfl ?_
  refine wl_mv (.const (.int .i64 (1))) (.int .i64 (1)) (fun _ => rfl) rfl rfl ?_
  refine w_nil ?_
  refine xn_then ?_
  refine w_ret ?_
  refine xr_then ?_
  exact w_ret2 _ _ (.int .i64 (0)) (.int .i64 (1)) rfl rfl rfl ⟨rfl, M⟩
theorem move_ok {tr : T} {id at0 : Int} (h : FT D w t mb tr lk) (hi : -9223372036854775808 ≤ id ∧ id ≤ 9223372036854775807) {k : Nat} (hq : adr tr.kv id = some k) (q4 : decide (at0 < 0) = false) (q6 : decide ((tr.kv.length : Int) ≤ at0) = false) (hlk : lk ≤ 2900000000000000000) : Calls Try.prog 16 #[pt t 0, .int .i64 id, .int .i64 at0] w fun e w' => ∃ p y kn tr1 tr' lk' D', e = .returned (.tuple #[.int .i64 p, .int .i64 0]) ∧ 0 ≤ p ∧ tr.ids[p.toNat]? = some y ∧ y.i = id ∧ Del tr y p tr1 ∧ Ins tr1 at0 y kn tr' ∧ FT D' w' t mb tr' lk' ∧ w.heap.size ≤ kn ∧ lk ≤ lk' ∧ lk' ≤ lk + 11 + 11 * tr.ht + 10 * tr1.ht ∧ Mk (fun j => D j ∨ j = mb.m) w w' ∧ ∀ j, D' j → D j ∨ w.heap.size ≤ j := by
  have hw : (Lit.int .i64 id).wf = true := WalkArith.wf_i64 ⟨hi.1, hi.2⟩
  obtain ⟨C0, y0, s0, l0, r0, hpl, hy0⟩ := kv_focus tr (adr_some hq)
  have ok0 := plug_okC C0 (tr := .n k y0 s0 l0 r0) (by rw [hpl]; exact h.ok)
  have hsz := plug_sz C0 (.n k y0 s0 l0 r0)
  have hph := plug_ht C0 (.n k y0 s0 l0 r0)
  rw [hpl] at hsz hph
  simp only [T.sz] at hsz
  have hph1 : 1 ≤ (T.n k y0 s0 l0 r0).ht := by unfold T.ht; omega
  have hle := h.le
  have hl00 := h.l0
  have hhl := tr.ht_le
  have hcn := csz_nn C0; have hl0n := T.sz_nn l0; have hr0n := T.sz_nn r0
  obtain ⟨R, root, hS, hAp, hC, hR, hn⟩ := h.ts
  have hM := h.om
  obtain ⟨⟨hd1, hkk⟩, _, _⟩ := (RS.at C0 (tr1 := .n k y0 s0 l0 r0) (R := R) (root := root) (by rw [hpl]; exact ⟨hS, hAp, hC, hR, hn⟩)).rp
  obtain ⟨yi, yv, yvs⟩ := y0
  have hyl := (hS.sv k _ hkk).2
  have hvD : ∀ b, ob yv = some b → D b := fun b hb => (hS.ds hkk (Or.inl hb)).1
  have e1 : ∃ p n c, yv = .slice p n c := by obtain ⟨p9, c9, e9, _⟩ := (hS.sv k _ hkk).1; exact ⟨p9, _, c9, e9⟩
  obtain ⟨yp, yn, yc, rfl⟩ := e1
  have hDlt : ∀ j, D j → j < w.heap.size := fun j e => hS.lt e
  have hslt : ∀ b, ob mb.h = some b → b < w.heap.size := fun b e => hS.sc.lt e
  have hmlt := hM.lt
  have hnb := hS.nb
  have hsd := hS.sd
  have hix := pre_len C0
  have hkl := tr.kv_len
  refine w_enter 45 Try.func16 Try.ntmps16 rfl rfl ?_
  have M : Mk (fun j => D j ∨ j = mb.m) w w := Mk.refl _ _
  refine w_seq ?_
  refine w_reg ?_
  refine wl_mv (.const (.int .i64 (0))) (.int .i64 (0)) (fun _ => rfl) rfl rfl ?_
  refine wl_mv (.const (.int .i64 (0))) (.int .i64 (0)) (fun _ => rfl) rfl rfl ?_
  refine w_nil ?_
  refine xn_then ?_
  refine w_seq ?_
  refine w_seq ?_
  refine w_reg ?_
  refine wl_mv (.tmp 0) (pt t 0) (fun _ => rfl) rfl rfl ?_
  refine wl_call 30 [(.tmp 11)] _ [pt t 0] (.bool true) rfl rfl (fun _ _ => by kernel_rfl) (made_n hS) rfl ?_
  intro w1 hq
  replace hS := hS.mo hq
  replace hM := hM.mo hq
  replace M := M.trans hq
  clear hq
  refine wl_un (fun v => Op.unary .not v) (.tmp 12) (.bool true) (.bool false) (fun _ => rfl) rfl (by kernel_rfl) rfl ?_
  refine w_nil ?_
  refine xn_then ?_
  refine w_condF rfl ?_
  refine w_skip ?_
  refine xn_then ?_
  refine w_seq ?_
  refine w_reg ?_
  refine wl_mv (.tmp 0) (pt t 0) (fun _ => rfl) rfl rfl ?_
  refine wl_nc (.tmp 14) t 0 rfl rfl rfl ?_
  refine wl_un (fun v => Instr.fieldAt 68 v 2) (.tmp 15) (pt t 0) (pt t 2) (fun _ => rfl) rfl (by kernel_rfl) rfl ?_
  refine wl_load 66 (.tmp 16) (pt t 2) (.map (some mb.m)) rfl rfl (run_one hS.tr 66 2 rfl Try.underlying66 rfl) rfl ?_
  refine wl_mv (.tmp 1) (.int .i64 (id)) (fun _ => rfl) rfl rfl ?_
  refine wl_bin (fun x y => Instr.lookup 66 x y false) (.tmp 17) (.tmp 18) (.map (some mb.m)) (.int .i64 (id)) (pt k 0) (fun _ => rfl) rfl rfl (by have := hM.look hw; rw [hq] at this; exact this) rfl ?_
  refine wl_mv (.tmp 19) (pt k 0) (fun _ => rfl) rfl rfl ?_
  refine w_nil ?_
  refine xn_then ?_
  refine w_seq ?_
  refine w_seq ?_
  refine w_reg ?_
  refine wl_mv (.tmp 8) (pt k 0) (fun _ => rfl) rfl rfl ?_
  refine wl_bin (fun x y => do eqGuard .eql 65 (.tmp 20) (.const (.pointer none)) x y; binOp .eql 65 x y) (.tmp 20) (.const (.pointer none)) (pt k 0) (pp none) (.bool false) (fun _ => rfl) rfl rfl (eqP (some k) _ _ _) rfl ?_
  refine w_nil ?_
  refine xn_then ?_
  refine w_condF rfl ?_
  refine w_skip ?_
  refine xn_then ?_
  refine w_seq ?_
  refine w_seq ?_
  refine w_reg ?_
  refine wl_mv (.tmp 2) (.int .i64 (at0)) (fun _ => rfl) rfl rfl ?_
  refine wl_bin (fun x y => do eqGuard .lss 3 (.tmp 22) (.const (.int .i64 (0))) x y; binOp .lss 3 x y) (.tmp 22) (.const (.int .i64 (0))) (.int .i64 (at0)) (.int .i64 (0)) (.bool false) (fun _ => rfl) rfl rfl (ltI q4 _ _ _) rfl ?_
  refine wl_mv (.tmp 23) (.bool false) (fun _ => rfl) rfl rfl ?_
  refine wl_mv (.tmp 2) (.int .i64 (at0)) (fun _ => rfl) rfl rfl ?_
  refine wl_mv (.tmp 0) (pt t 0) (fun _ => rfl) rfl rfl ?_
  refine wl_call 10 [(.tmp 26)] _ [pt t 0] (.int .i64 ((tr.kv.length : Int))) rfl rfl (fun _ _ => by kernel_rfl) (len_n hS hM) rfl ?_
  intro w2 hq
  replace hS := hS.mo hq
  replace hM := hM.mo hq
  replace M := M.trans hq
  clear hq
  refine wl_bin (fun x y => do eqGuard .geq 3 (.tmp 25) (.tmp 27) x y; binOp .geq 3 x y) (.tmp 25) (.tmp 27) (.int .i64 (at0)) (.int .i64 ((tr.kv.length : Int))) (.bool false) (fun _ => rfl) rfl rfl (geI q6 _ _ _) rfl ?_
  refine wl_pick (.tmp 24) (.const (.bool true)) (.tmp 28) false (.bool false) (fun _ => rfl) rfl rfl rfl ?_
  refine w_nil ?_
  refine xn_then ?_
  refine w_condF rfl ?_
  refine w_skip ?_
  refine xn_then ?_
  refine w_seq ?_
  refine w_reg ?_
  refine wl_mv (.tmp 0) (pt t 0) (fun _ => rfl) rfl rfl ?_
  refine wl_mv (.tmp 8) (pt k 0) (fun _ => rfl) rfl rfl ?_
  refine wl_callg 37 [(.tmp 30), (.tmp 31)] _ [pt t 0, pt k 0] (.int .i64 (l0.sz + ix C0)) rfl rfl (fun _ _ => by kernel_rfl) (place_n (C := C0) (k := k) (i := ⟨yi, .slice yp yn yc, yvs⟩) (s := s0) (l0 := l0) (r0 := r0) (R := R) (root := root) (by rw [hpl]; exact ⟨hS, hAp, hC, hR, hn⟩) ok0.2 ok0.1 (by omega) ⟨by omega, by omega⟩) rfl ?_
  intro w3 hF
  obtain ⟨lk2, hk1, hk2, hS9, hM2⟩ := hF
  replace hM := hM.mk hM2 hS.nb
  replace M := M.tr hM2 (fun _ _ e => Or.inl e)
  replace hS := hS9
  clear hM2 hS9
  refine wl_mv (.tmp 32) (.int .i64 (l0.sz + ix C0)) (fun _ => rfl) rfl rfl ?_
  refine w_nil ?_
  refine xn_then ?_
  refine w_seq ?_
  refine w_reg ?_
  refine wl_mv (.tmp 8) (pt k 0) (fun _ => rfl) rfl rfl ?_
  refine wl_nc (.tmp 33) k 0 rfl rfl rfl ?_
  refine wl_un (fun v => Instr.fieldAt 93 v 0) (.tmp 34) (pt k 0) (pt k 0) (fun _ => rfl) rfl (by kernel_rfl) rfl ?_
  refine wl_load 83 (.tmp 35) (pt k 0) (.agg #[.int .i64 yi, .slice yp yn yc]) rfl rfl (run_row (hS.rc k _ hkk) 83 0 2 [.int .i64 yi, .slice yp yn yc] rfl Try.underlying83 rfl zs83) rfl ?_
  refine wl_alloc 83 #[.int .i64 0, .slice none 0 0] rfl (fun _ => by kernel_rfl) rfl ?_
  intro k10 w4 hk hz hq Q10
  have hMs := M.size
  have hk10 : w.heap.size ≤ k10 := by omega
  have nd10 : ¬ D k10 := fun e => by have := hDlt _ e; omega
  have nm10 : k10 ≠ mb.m := by omega
  have ns10 : ∀ b, ob mb.h = some b → b ≠ k10 := fun b hb => by have := hslt b hb; omega
  replace hS := hS.mo hq
  replace hM := hM.mo hq
  replace M := M.trans hq
  clear hk hz hq
  refine wl_stx2 83 (.tmp 10) (.tmp 36) k10 0 #[.int .i64 yi, .slice yp yn yc] [.int .i64 0, .slice none 0 0] [.int .i64 yi, .slice yp yn yc] Q10 rfl rfl rfl rfl rfl zs83 rfl rfl rfl ?_
  intro w5 hT Qn
  replace Q10 := Qn
  have hK := Mk.st1 hT
  replace hM := hM.mk hK (Ne.symm nm10)
  replace hS := hS.kept hK (fun j e q => nd10 (q ▸ e)) (fun b hb q => ns10 b hb q)
  replace M := M.tr hK (fun j hj e => absurd e (by omega))
  clear hT hK Qn
  refine w_nil ?_
  refine xn_then ?_
  refine w_seq ?_
  refine w_reg ?_
  refine wl_mv (.tmp 0) (pt t 0) (fun _ => rfl) rfl rfl ?_
  refine wl_mv (.tmp 8) (pt k 0) (fun _ => rfl) rfl rfl ?_
  have hF1 := h.lkd ⟨R, root, ⟨hS, hAp, hC, hR, hn⟩⟩ hM hk1
  refine wl_callg 38 [(.tmp 37), (.tmp 38)] _ [pt t 0, pt k 0] (.tuple #[]) rfl rfl (fun _ _ => by kernel_rfl) (take_f (C := C0) (k := k) (i := ⟨yi, .slice yp yn yc, yvs⟩) (s := s0) (l := l0) (r := r0) (by rw [hpl]; exact hF1) (by omega)) rfl ?_
  intro w6 hF
  rw [hpl] at hF
  obtain ⟨tr2, lk3, D2, hD, hF2, hk3, hk4, hM2, hD1, hD2, hRv⟩ := hF
  replace M := M.same hM2
  replace Q10 := hM2.at Q10 (fun e => e.elim nd10 nm10)
  clear hM2
  obtain ⟨X, Y, hX1, hX2, hX3⟩ := hD.ids
  have hnd := h.nd
  rw [hX1] at hnd
  simp only [List.map_append, List.map_cons] at hnd
  have hnot : yi ∉ tr2.ids.map (·.i) := by rw [hX3, List.map_append]; exact (List.nodup_cons.1 (List.perm_middle.nodup_iff.1 hnd)).1
  have hr0 := h.rg yi (by rw [hX1]; simp)
  have hz1 := tr.sz_ids
  have hz2 := tr2.sz_ids
  rw [hX1, List.length_append, List.length_cons] at hz1
  rw [hX3, List.length_append] at hz2
  have hht2 := tr2.ht_le
  refine w_nil ?_
  refine xn_then ?_
  refine w_seq ?_
  refine w_reg ?_
  refine wl_mv (.tmp 0) (pt t 0) (fun _ => rfl) rfl rfl ?_
  refine wl_mv (.tmp 2) (.int .i64 (at0)) (fun _ => rfl) rfl rfl ?_
  refine wl_load 83 (.tmp 10) (pt k10 0) (.agg #[.int .i64 yi, .slice yp yn yc]) rfl rfl (run_row Q10 83 0 2 [.int .i64 yi, .slice yp yn yc] rfl Try.underlying83 rfl zs83) rfl ?_
  refine wl_callg 31 [(.tmp 40), (.tmp 41), (.tmp 42)] _ [pt t 0, .int .i64 (at0), .agg #[.int .i64 yi, .slice yp yn yc]] (.tuple #[]) rfl rfl (fun _ _ => by kernel_rfl) (put_f hF2 hnot hr0.1 hr0.2 (by omega) (by have := of_decide_eq_false q4; omega) (by have := of_decide_eq_false q6; omega) (by omega) ⟨hRv, hyl⟩ (fun b hb => ⟨hD2 b hb, fun e => hnb (e ▸ hvD b hb), fun e => hsd b e (hvD b hb)⟩)) rfl ?_
  intro w7 hF
  obtain ⟨kn, tr3, lk4, D3, hI, hF3, hkn, hk5, hk6, hM2, hD3⟩ := hF
  have hMs3 := M.size
  replace hkn := Nat.le_trans M.size hkn
  replace M := M.tr hM2 (fun j _ e => by rcases e with e | e | e; exact Or.inl (hD1 j e); exact Or.inr e; exact Or.inl (hvD j e))
  clear hM2
  refine w_nil ?_
  refine xn_then ?_
  refine w_seq ?_
  refine w_reg ?_
  refine wl_mv (.tmp 9) (.int .i64 (l0.sz + ix C0)) (fun _ => rfl) rfl rfl ?_
  refine wl_mv (.tmp 44) (.int .i64 (l0.sz + ix C0)) (fun _ => rfl) rfl rfl ?_
  refine wl_mv (.const (.int .i64 (0))) (.int .i64 (0)) (fun _ => rfl) rfl rfl ?_
  refine w_nil ?_
  refine xn_then ?_
  refine w_ret ?_
  exact w_ret2 _ _ (.int .i64 (l0.sz + ix C0)) (.int .i64 (0)) rfl rfl rfl ⟨l0.sz + ix C0, ⟨yi, .slice yp yn yc, yvs⟩, kn, tr2, tr3, lk4, D3, rfl, by omega, by rw [← hpl]; exact ids_at, hy0, hD, hI, hF3, hkn, by omega, by omega, M, fun j e => by rcases hD3 j e with e | e | e; exact Or.inl (hD1 j e); exact Or.inr (by omega); exact Or.inl (hvD j e)⟩
end
end G
end Go.Proofs.Ythfemlhmnjfjiaa
/-
  slices.Clone: rows in a new block.
-/
namespace Go.Proofs.Ythfemlhmnjfjiaa
open Go.RowKit
namespace G
theorem flat_at {m : Nat} : ∀ {L : List (List Value)}, (∀ x ∈ L, x.length = m) → ∀ {k j : Nat} {cs : List Value}, L[k]? = some cs → j < m → L.flatten[k * m + j]? = cs[j]?
  | [], _, k, j, cs, h, _ => by cases h
  | x :: L, hL, 0, j, cs, h, hj => by
    cases h
    rw [List.flatten_cons, List.getElem?_append_left (by have := hL x (by simp); omega)]
    congr 1; omega
  | x :: L, hL, k + 1, j, cs, h, hj => by
    have hx := hL x (by simp)
    rw [List.flatten_cons, List.getElem?_append_right (by rw [hx, Nat.succ_mul]; omega), hx, show (k + 1) * m + j - m = k * m + j by rw [Nat.succ_mul]; omega]
    exact flat_at (fun y hy => hL y (by simp [hy])) h hj
theorem flat_len {m : Nat} : ∀ {L : List (List Value)}, (∀ x ∈ L, x.length = m) → L.flatten.length = L.length * m
  | [], _ => by simp
  | x :: L, hL => by
    rw [List.flatten_cons, List.length_append, hL x (by simp), flat_len (fun y hy => hL y (by simp [hy])), List.length_cons, Nat.succ_mul]; omega
/-- Rows appended to a slice of none: in a new block. -/
theorem app_cl (t e : TypeId) (i : TypeInfo) (z : Value) (m B : Nat) (ht : Try.prog.underlying t = some (.slice e)) (hi : Try.prog.info? e = some i) (hz : i.zero = some z) (hs : i.size = m) (hby : i.bytes = B) (hm : 0 < m) (ty : TypeId) (w : World) (g b off c : Nat) (L : List (List Value)) (hL : ∀ x ∈ L, x.length = m) (hne : L ≠ [])
    (hr : ∀ k cs, L[k]? = some cs → w.rangeAt b (off + k * m) cs) (hB : (L.length + L.length / 4 + 192) * B ≤ 281474976710656) (h63 : L.length ≤ 1000000000000) :
    ∃ cap w', (Builtin.append_ #[t, t] ty #[.slice (some ⟨g, 0, none⟩) 0 0, .slice (some ⟨b, off, none⟩) L.length c]).run Try.prog w = .ok (.slice (some ⟨w.heap.size, 0, none⟩) L.length cap) w' ∧ Rw w' m (.slice (some ⟨w.heap.size, 0, none⟩) L.length cap) L ∧ Mo w w' := by
  have hfl := flat_len hL
  have hn0 : 0 < L.length := List.length_pos_iff.2 hne
  have hnews : ∀ j u, L.flatten[j]? = some u → w.cell? ((⟨b, off, none⟩ : Addr).add j) = some u := fun j u hu => by
    have hj : j < L.length * m := by rw [← hfl]; exact (List.getElem?_eq_some_iff.1 hu).1
    have hq : j / m < L.length := Nat.div_lt_of_lt_mul (by rw [Nat.mul_comm]; exact hj)
    have hjm := Nat.mod_lt j hm
    have hdm : j / m * m + j % m = j := by rw [Nat.mul_comm]; exact Nat.div_add_mod j m
    have h2 := flat_at hL (List.getElem?_eq_getElem hq) hjm
    rw [hdm, hu] at h2
    have h3 := hr (j / m) _ (List.getElem?_eq_getElem hq) (j % m) u h2.symm
    rw [Addr.add_mid, ← show off + j / m * m + j % m = off + j by omega]
    exact h3
  have hrun := run_append_grow (P := Try.prog) w t ty e i z ht hi hz ⟨g, 0, none⟩ 0 0 [] (by simp) (fun j u hu => by cases hu) ⟨b, off, none⟩ L.length c L.flatten (by rw [hs]; exact hfl) hnews (by omega) (by omega) (by rw [hby, Nat.zero_add]; exact growslice_fits_wide hn0 hB)
  simp only [Nat.zero_add] at hrun
  refine ⟨_, _, hrun, ⟨_, _, rfl, fun _ => ⟨w.heap.size, 0, rfl, ?_, ?_, fun k cs hk j v hv => ?_⟩⟩, (Mo.refl _).drew.alloc _ _⟩
  · exact (At.new w.drew _ e).2.2
  · exact (At.new w.drew _ e).2.1
  · have hj : j < m := by rw [← hL cs (List.mem_of_getElem? hk)]; exact (List.getElem?_eq_some_iff.1 hv).1
    have h2 := flat_at hL hk hj
    rw [hv] at h2
    have hlt := (List.getElem?_eq_some_iff.1 h2).1
    rw [show 0 + k * m + j = 0 + (k * m + j) by omega]
    refine (At.new w.drew _ e).1 (k * m + j) v ?_
    rw [Array.toList_append, List.getElem?_append_left (by simpa using hlt)]
    simpa using h2
end G
end Go.Proofs.Ythfemlhmnjfjiaa
/-
  slices.Clone of values, whole numbers and summaries.
-/
namespace Go.Proofs.Ythfemlhmnjfjiaa
open Go.RowKit
namespace G
section
variable {o : Oper} {n : Nat} {l : List (Nat × Value)} {w : World} {ops : Array Oper} {rest : List Oper} {Q : Exit → Act → World → Prop}
theorem wl_bs0 {t e : TypeId} (hb : ∀ w, (Instr.buildSlice t 0 #[]).run Try.prog w = .ok (.slice (some ⟨w.heap.size, 0, none⟩) 0 0) (w.alloc (.cells #[] e))) (ho : o.op = .buildSlice t 0 #[]) (hg : wnt n l ops o = true)
    (hk : ∀ k w', w.heap.size = k → Mo w w' → WL Try.prog ops Q rest n (ext l o.dst (.slice (some ⟨k, 0, none⟩) 0 0)) w') : WL Try.prog ops Q (o :: rest) n l w :=
  ⟨l_step hg (o_val (.slice (some ⟨w.heap.size, 0, none⟩) 0 0) (w' := w.alloc (.cells #[] e)) (by simp [execOp, ho, hb]) (hk _ _ rfl ((Mo.refl _).alloc _ _)).out)⟩
theorem wl_ap {t : TypeId} (s x : Operand) (v v2 v' : Value) {w' : World} (ho : o.op = .call { callee := .builtin .append, args := #[s, x], argTypes := #[t, t] }) (hs : evl n l s = v) (hx : evl n l x = v2) (hr : (Builtin.append_ #[t, t] o.type #[v, v2]).run Try.prog w = .ok v' w') (hg : wnt n l ops o = true)
    (hk : WL Try.prog ops Q rest n (ext l o.dst v') w') : WL Try.prog ops Q (o :: rest) n l w := by
  refine ⟨l_step hg (o_val v' (w' := w') ?_ hk.out)⟩
  unfold execOp
  simp only [ho, resolve, invoke, builtin, Sem.run_bind, Sem.run_pure, Result.andThen_ok, List.map_toArray, List.map_cons, List.map_nil, hs, hx, hr]
end
theorem Rw.nil {w : World} {m : Nat} (p : Option Addr) (c : Nat) : Rw w m (.slice p 0 c) [] := ⟨p, c, rfl, fun h => absurd rfl h⟩
section
variable {w : World}
theorem bz29 (w : World) : (Instr.buildSlice 29 0 #[]).run Try.prog w = .ok (.slice (some ⟨w.heap.size, 0, none⟩) 0 0) (w.alloc (.cells #[] 55)) := by kernel_rfl
theorem es29 (a : Addr) (n c : Nat) (x y : Operand) (w : World) : (do eqGuard .eql 29 x y (.slice (some a) n c) (.slice none 0 0); binOp .eql 29 (.slice (some a) n c) (.slice none 0 0)).run Try.prog w = .ok (.bool false) w := by kernel_rfl
theorem en29 (n c : Nat) (x y : Operand) (w : World) : (do eqGuard .eql 29 x y (.slice none n c) (.slice none 0 0); binOp .eql 29 (.slice none n c) (.slice none 0 0)).run Try.prog w = .ok (.bool true) w := by kernel_rfl
theorem az29 (g : Nat) (a : Addr) (c : Nat) (ty : TypeId) (w : World) : (Builtin.append_ #[29, 29] ty #[.slice (some ⟨g, 0, none⟩) 0 0, .slice (some a) 0 c]).run Try.prog w = .ok (.slice (some ⟨g, 0, none⟩) 0 0) w := by kernel_rfl
theorem ib55 : ∃ i z, Try.prog.info? 55 = some i ∧ i.zero = some z ∧ i.size = 10 ∧ i.bytes = 88 := by
  have h : (Try.prog.info? 55).map (fun i => (i.zero.isSome, i.size, i.bytes)) = some (true, 10, 88) := by kernel_rfl
  cases hi : Try.prog.info? 55 with
  | none => rw [hi] at h; cases h
  | some i =>
    rw [hi] at h
    simp only [Option.map_some, Option.some.injEq, Prod.mk.injEq] at h
    obtain ⟨z, hz⟩ := Option.isSome_iff_exists.1 h.1
    exact ⟨i, z, rfl, hz, h.2.1, h.2.2⟩
theorem clv_0 (c : Nat) : Calls Try.prog 22 #[.slice none 0 c] w fun e w' => ∃ p' c', e = .returned (.slice p' 0 c') ∧ Rw w' 10 (.slice p' 0 c') [] ∧ (∀ b, ob (.slice p' 0 c') = some b → w.heap.size ≤ b) ∧ Mo w w' := by
  refine w_enter 8 Try.func22 Try.ntmps22 rfl rfl ?_
  have M : Mo w w := Mo.refl _
  refine w_seq ?_
  refine w_reg ?_
  refine wl_mv (.const (.slice none 0 0)) (.slice none 0 0) (fun _ => rfl) rfl rfl ?_
  refine w_nil ?_
  refine xn_then ?_
  refine w_seq ?_
  refine w_seq ?_
  refine w_reg ?_
  refine wl_mv (.tmp 0) (.slice none 0 c) (fun _ => rfl) rfl rfl ?_
  refine wl_bin (fun x y => do eqGuard .eql 29 (.tmp 3) (.const (.slice none 0 0)) x y; binOp .eql 29 x y) (.tmp 3) (.const (.slice none 0 0)) (.slice none 0 c) (.slice none 0 0) (.bool true) (fun _ => rfl) rfl rfl (en29 _ _ _ _ _) rfl ?_
  refine w_nil ?_
  refine xn_then ?_
  refine w_condT rfl ?_
  refine w_seq ?_
  refine w_reg ?_
  refine wl_mv (.const (.slice none 0 0)) (.slice none 0 0) (fun _ => rfl) rfl rfl ?_
  refine w_nil ?_
  refine xn_then ?_
  refine w_ret ?_
  refine xr_then ?_
  exact w_ret1 _ (.slice none 0 0) rfl rfl ⟨none, 0, rfl, Rw.nil _ _, (fun _ h => by cases h), M⟩
theorem clv_1 (a : Addr) (c : Nat) : Calls Try.prog 22 #[.slice (some a) 0 c] w fun e w' => ∃ p' c', e = .returned (.slice p' 0 c') ∧ Rw w' 10 (.slice p' 0 c') [] ∧ (∀ b, ob (.slice p' 0 c') = some b → w.heap.size ≤ b) ∧ Mo w w' := by
  refine w_enter 8 Try.func22 Try.ntmps22 rfl rfl ?_
  have M : Mo w w := Mo.refl _
  refine w_seq ?_
  refine w_reg ?_
  refine wl_mv (.const (.slice none 0 0)) (.slice none 0 0) (fun _ => rfl) rfl rfl ?_
  refine w_nil ?_
  refine xn_then ?_
  refine w_seq ?_
  refine w_seq ?_
  refine w_reg ?_
  refine wl_mv (.tmp 0) (.slice (some a) 0 c) (fun _ => rfl) rfl rfl ?_
  refine wl_bin (fun x y => do eqGuard .eql 29 (.tmp 3) (.const (.slice none 0 0)) x y; binOp .eql 29 x y) (.tmp 3) (.const (.slice none 0 0)) (.slice (some a) 0 c) (.slice none 0 0) (.bool false) (fun _ => rfl) rfl rfl (es29 _ _ _ _ _ _) rfl ?_
  refine w_nil ?_
  refine xn_then ?_
  refine w_condF rfl ?_
  refine w_skip ?_
  refine xn_then ?_
  refine w_seq ?_
  refine w_reg ?_
  refine wl_bs0 bz29 rfl rfl ?_
  intro g w1 hg hq
  replace M := M.trans hq
  have hgs : w.heap.size ≤ g := by omega
  clear hq
  refine wl_mv (.tmp 0) (.slice (some a) 0 c) (fun _ => rfl) rfl rfl ?_
  refine wl_ap (.tmp 5) (.tmp 6) (.slice (some ⟨g, 0, none⟩) 0 0) (.slice (some a) 0 c) (.slice (some ⟨g, 0, none⟩) 0 0) rfl rfl rfl (az29 g a c _ _) rfl ?_
  refine wl_mv (.tmp 7) (.slice (some ⟨g, 0, none⟩) 0 0) (fun _ => rfl) rfl rfl ?_
  refine w_nil ?_
  refine xn_then ?_
  refine w_ret ?_
  exact w_ret1 _ (.slice (some ⟨g, 0, none⟩) 0 0) rfl rfl ⟨some ⟨g, 0, none⟩, 0, rfl, Rw.nil _ _, (fun _ h => by cases h), M⟩
theorem clv_2 (b off c : Nat) (L : List (List Value)) (hL : ∀ x ∈ L, x.length = 10) (hne : L ≠ []) (hbl : b < w.heap.size) (hr : ∀ k cs, L[k]? = some cs → w.rangeAt b (off + k * 10) cs) (hn : L.length ≤ 1000000) : Calls Try.prog 22 #[.slice (some ⟨b, off, none⟩) L.length c] w fun e w' => ∃ p' c', e = .returned (.slice p' L.length c') ∧ Rw w' 10 (.slice p' L.length c') L ∧ (∀ b, ob (.slice p' L.length c') = some b → w.heap.size ≤ b) ∧ Mo w w' := by
  obtain ⟨i, z, hi, hz, hs, hby⟩ := ib55
  refine w_enter 8 Try.func22 Try.ntmps22 rfl rfl ?_
  have M : Mo w w := Mo.refl _
  refine w_seq ?_
  refine w_reg ?_
  refine wl_mv (.const (.slice none 0 0)) (.slice none 0 0) (fun _ => rfl) rfl rfl ?_
  refine w_nil ?_
  refine xn_then ?_
  refine w_seq ?_
  refine w_seq ?_
  refine w_reg ?_
  refine wl_mv (.tmp 0) (.slice (some ⟨b, off, none⟩) L.length c) (fun _ => rfl) rfl rfl ?_
  refine wl_bin (fun x y => do eqGuard .eql 29 (.tmp 3) (.const (.slice none 0 0)) x y; binOp .eql 29 x y) (.tmp 3) (.const (.slice none 0 0)) (.slice (some ⟨b, off, none⟩) L.length c) (.slice none 0 0) (.bool false) (fun _ => rfl) rfl rfl (es29 _ _ _ _ _ _) rfl ?_
  refine w_nil ?_
  refine xn_then ?_
  refine w_condF rfl ?_
  refine w_skip ?_
  refine xn_then ?_
  refine w_seq ?_
  refine w_reg ?_
  refine wl_bs0 bz29 rfl rfl ?_
  intro g w1 hg hq
  replace M := M.trans hq
  replace hr : ∀ k cs, L[k]? = some cs → _ := fun k cs h => (fun j v hv => (hq.cell b _ hbl).trans (hr k cs h j v hv) : World.rangeAt w1 b (off + k * 10) cs)
  have hgs : w.heap.size ≤ g := by omega
  clear hq
  refine wl_mv (.tmp 0) (.slice (some ⟨b, off, none⟩) L.length c) (fun _ => rfl) rfl rfl ?_
  obtain ⟨cap, w9, hrun, hRw, hq⟩ := app_cl 29 55 i z 10 88 Try.underlying29 hi hz hs hby (by decide) 29 w1 g b off c L hL hne hr (by omega) (by omega)
  refine wl_ap (.tmp 5) (.tmp 6) (.slice (some ⟨g, 0, none⟩) 0 0) (.slice (some ⟨b, off, none⟩) L.length c) _ rfl rfl rfl hrun rfl ?_
  have hMs := M.size
  replace M := M.trans hq
  refine wl_mv (.tmp 7) (.slice (some ⟨w1.heap.size, 0, none⟩) L.length cap) (fun _ => rfl) rfl rfl ?_
  refine w_nil ?_
  refine xn_then ?_
  refine w_ret ?_
  exact w_ret1 _ (.slice (some ⟨w1.heap.size, 0, none⟩) L.length cap) rfl rfl ⟨_, cap, rfl, hRw, (fun b9 h9 => by obtain ⟨a9, q9, c9, e1, e2⟩ := ob_some h9; rw [Value.slice.injEq] at e1; have e3 := e1.1; cases e3; subst e2; exact hMs), M⟩
/-- A clone lies in a block of its own. -/
theorem clv_n {p : Option Addr} {c : Nat} {L : List (List Value)} (hL : ∀ x ∈ L, x.length = 10) (hr : ∀ k cs, L[k]? = some cs → ∃ b off, p = some ⟨b, off, none⟩ ∧ b < w.heap.size ∧ w.rangeAt b (off + k * 10) cs) (hn : L.length ≤ 1000000) : Calls Try.prog 22 #[.slice p L.length c] w fun e w' => ∃ p' c', e = .returned (.slice p' L.length c') ∧ Rw w' 10 (.slice p' L.length c') L ∧ (∀ b, ob (.slice p' L.length c') = some b → w.heap.size ≤ b) ∧ Mo w w' := by
  cases L with
  | nil =>
    cases p with
    | none => exact clv_0 c
    | some a => exact clv_1 a c
  | cons x L =>
    obtain ⟨b, off, rfl, hbl, _⟩ := hr 0 x rfl
    exact clv_2 b off c (x :: L) hL (by simp) hbl (fun k cs h => by obtain ⟨b2, off2, e, _, h2⟩ := hr k cs h; cases e; exact h2) hn
theorem bz22 (w : World) : (Instr.buildSlice 22 0 #[]).run Try.prog w = .ok (.slice (some ⟨w.heap.size, 0, none⟩) 0 0) (w.alloc (.cells #[] 3)) := by kernel_rfl
theorem es22 (a : Addr) (n c : Nat) (x y : Operand) (w : World) : (do eqGuard .eql 22 x y (.slice (some a) n c) (.slice none 0 0); binOp .eql 22 (.slice (some a) n c) (.slice none 0 0)).run Try.prog w = .ok (.bool false) w := by kernel_rfl
theorem en22 (n c : Nat) (x y : Operand) (w : World) : (do eqGuard .eql 22 x y (.slice none n c) (.slice none 0 0); binOp .eql 22 (.slice none n c) (.slice none 0 0)).run Try.prog w = .ok (.bool true) w := by kernel_rfl
theorem az22 (g : Nat) (a : Addr) (c : Nat) (ty : TypeId) (w : World) : (Builtin.append_ #[22, 22] ty #[.slice (some ⟨g, 0, none⟩) 0 0, .slice (some a) 0 c]).run Try.prog w = .ok (.slice (some ⟨g, 0, none⟩) 0 0) w := by kernel_rfl
theorem ib3 : ∃ i z, Try.prog.info? 3 = some i ∧ i.zero = some z ∧ i.size = 1 ∧ i.bytes = 8 := by
  have h : (Try.prog.info? 3).map (fun i => (i.zero.isSome, i.size, i.bytes)) = some (true, 1, 8) := by kernel_rfl
  cases hi : Try.prog.info? 3 with
  | none => rw [hi] at h; cases h
  | some i =>
    rw [hi] at h
    simp only [Option.map_some, Option.some.injEq, Prod.mk.injEq] at h
    obtain ⟨z, hz⟩ := Option.isSome_iff_exists.1 h.1
    exact ⟨i, z, rfl, hz, h.2.1, h.2.2⟩
theorem cli_0 (c : Nat) : Calls Try.prog 29 #[.slice none 0 c] w fun e w' => ∃ p' c', e = .returned (.slice p' 0 c') ∧ Rw w' 1 (.slice p' 0 c') [] ∧ (∀ b, ob (.slice p' 0 c') = some b → w.heap.size ≤ b) ∧ Mo w w' := by
  refine w_enter 8 Try.func29 Try.ntmps29 rfl rfl ?_
  have M : Mo w w := Mo.refl _
  refine w_seq ?_
  refine w_reg ?_
  refine wl_mv (.const (.slice none 0 0)) (.slice none 0 0) (fun _ => rfl) rfl rfl ?_
  refine w_nil ?_
  refine xn_then ?_
  refine w_seq ?_
  refine w_seq ?_
  refine w_reg ?_
  refine wl_mv (.tmp 0) (.slice none 0 c) (fun _ => rfl) rfl rfl ?_
  refine wl_bin (fun x y => do eqGuard .eql 22 (.tmp 3) (.const (.slice none 0 0)) x y; binOp .eql 22 x y) (.tmp 3) (.const (.slice none 0 0)) (.slice none 0 c) (.slice none 0 0) (.bool true) (fun _ => rfl) rfl rfl (en22 _ _ _ _ _) rfl ?_
  refine w_nil ?_
  refine xn_then ?_
  refine w_condT rfl ?_
  refine w_seq ?_
  refine w_reg ?_
  refine wl_mv (.const (.slice none 0 0)) (.slice none 0 0) (fun _ => rfl) rfl rfl ?_
  refine w_nil ?_
  refine xn_then ?_
  refine w_ret ?_
  refine xr_then ?_
  exact w_ret1 _ (.slice none 0 0) rfl rfl ⟨none, 0, rfl, Rw.nil _ _, (fun _ h => by cases h), M⟩
theorem cli_1 (a : Addr) (c : Nat) : Calls Try.prog 29 #[.slice (some a) 0 c] w fun e w' => ∃ p' c', e = .returned (.slice p' 0 c') ∧ Rw w' 1 (.slice p' 0 c') [] ∧ (∀ b, ob (.slice p' 0 c') = some b → w.heap.size ≤ b) ∧ Mo w w' := by
  refine w_enter 8 Try.func29 Try.ntmps29 rfl rfl ?_
  have M : Mo w w := Mo.refl _
  refine w_seq ?_
  refine w_reg ?_
  refine wl_mv (.const (.slice none 0 0)) (.slice none 0 0) (fun _ => rfl) rfl rfl ?_
  refine w_nil ?_
  refine xn_then ?_
  refine w_seq ?_
  refine w_seq ?_
  refine w_reg ?_
  refine wl_mv (.tmp 0) (.slice (some a) 0 c) (fun _ => rfl) rfl rfl ?_
  refine wl_bin (fun x y => do eqGuard .eql 22 (.tmp 3) (.const (.slice none 0 0)) x y; binOp .eql 22 x y) (.tmp 3) (.const (.slice none 0 0)) (.slice (some a) 0 c) (.slice none 0 0) (.bool false) (fun _ => rfl) rfl rfl (es22 _ _ _ _ _ _) rfl ?_
  refine w_nil ?_
  refine xn_then ?_
  refine w_condF rfl ?_
  refine w_skip ?_
  refine xn_then ?_
  refine w_seq ?_
  refine w_reg ?_
  refine wl_bs0 bz22 rfl rfl ?_
  intro g w1 hg hq
  replace M := M.trans hq
  have hgs : w.heap.size ≤ g := by omega
  clear hq
  refine wl_mv (.tmp 0) (.slice (some a) 0 c) (fun _ => rfl) rfl rfl ?_
  refine wl_ap (.tmp 5) (.tmp 6) (.slice (some ⟨g, 0, none⟩) 0 0) (.slice (some a) 0 c) (.slice (some ⟨g, 0, none⟩) 0 0) rfl rfl rfl (az22 g a c _ _) rfl ?_
  refine wl_mv (.tmp 7) (.slice (some ⟨g, 0, none⟩) 0 0) (fun _ => rfl) rfl rfl ?_
  refine w_nil ?_
  refine xn_then ?_
  refine w_ret ?_
  exact w_ret1 _ (.slice (some ⟨g, 0, none⟩) 0 0) rfl rfl ⟨some ⟨g, 0, none⟩, 0, rfl, Rw.nil _ _, (fun _ h => by cases h), M⟩
theorem cli_2 (b off c : Nat) (L : List (List Value)) (hL : ∀ x ∈ L, x.length = 1) (hne : L ≠ []) (hbl : b < w.heap.size) (hr : ∀ k cs, L[k]? = some cs → w.rangeAt b (off + k * 1) cs) (hn : L.length ≤ 1000000) : Calls Try.prog 29 #[.slice (some ⟨b, off, none⟩) L.length c] w fun e w' => ∃ p' c', e = .returned (.slice p' L.length c') ∧ Rw w' 1 (.slice p' L.length c') L ∧ (∀ b, ob (.slice p' L.length c') = some b → w.heap.size ≤ b) ∧ Mo w w' := by
  obtain ⟨i, z, hi, hz, hs, hby⟩ := ib3
  refine w_enter 8 Try.func29 Try.ntmps29 rfl rfl ?_
  have M : Mo w w := Mo.refl _
  refine w_seq ?_
  refine w_reg ?_
  refine wl_mv (.const (.slice none 0 0)) (.slice none 0 0) (fun _ => rfl) rfl rfl ?_
  refine w_nil ?_
  refine xn_then ?_
  refine w_seq ?_
  refine w_seq ?_
  refine w_reg ?_
  refine wl_mv (.tmp 0) (.slice (some ⟨b, off, none⟩) L.length c) (fun _ => rfl) rfl rfl ?_
  refine wl_bin (fun x y => do eqGuard .eql 22 (.tmp 3) (.const (.slice none 0 0)) x y; binOp .eql 22 x y) (.tmp 3) (.const (.slice none 0 0)) (.slice (some ⟨b, off, none⟩) L.length c) (.slice none 0 0) (.bool false) (fun _ => rfl) rfl rfl (es22 _ _ _ _ _ _) rfl ?_
  refine w_nil ?_
  refine xn_then ?_
  refine w_condF rfl ?_
  refine w_skip ?_
  refine xn_then ?_
  refine w_seq ?_
  refine w_reg ?_
  refine wl_bs0 bz22 rfl rfl ?_
  intro g w1 hg hq
  replace M := M.trans hq
  replace hr : ∀ k cs, L[k]? = some cs → _ := fun k cs h => (fun j v hv => (hq.cell b _ hbl).trans (hr k cs h j v hv) : World.rangeAt w1 b (off + k * 1) cs)
  have hgs : w.heap.size ≤ g := by omega
  clear hq
  refine wl_mv (.tmp 0) (.slice (some ⟨b, off, none⟩) L.length c) (fun _ => rfl) rfl rfl ?_
  obtain ⟨cap, w9, hrun, hRw, hq⟩ := app_cl 22 3 i z 1 8 Try.underlying22 hi hz hs hby (by decide) 22 w1 g b off c L hL hne hr (by omega) (by omega)
  refine wl_ap (.tmp 5) (.tmp 6) (.slice (some ⟨g, 0, none⟩) 0 0) (.slice (some ⟨b, off, none⟩) L.length c) _ rfl rfl rfl hrun rfl ?_
  have hMs := M.size
  replace M := M.trans hq
  refine wl_mv (.tmp 7) (.slice (some ⟨w1.heap.size, 0, none⟩) L.length cap) (fun _ => rfl) rfl rfl ?_
  refine w_nil ?_
  refine xn_then ?_
  refine w_ret ?_
  exact w_ret1 _ (.slice (some ⟨w1.heap.size, 0, none⟩) L.length cap) rfl rfl ⟨_, cap, rfl, hRw, (fun b9 h9 => by obtain ⟨a9, q9, c9, e1, e2⟩ := ob_some h9; rw [Value.slice.injEq] at e1; have e3 := e1.1; cases e3; subst e2; exact hMs), M⟩
/-- A clone lies in a block of its own. -/
theorem cli_n {p : Option Addr} {c : Nat} {L : List (List Value)} (hL : ∀ x ∈ L, x.length = 1) (hr : ∀ k cs, L[k]? = some cs → ∃ b off, p = some ⟨b, off, none⟩ ∧ b < w.heap.size ∧ w.rangeAt b (off + k * 1) cs) (hn : L.length ≤ 1000000) : Calls Try.prog 29 #[.slice p L.length c] w fun e w' => ∃ p' c', e = .returned (.slice p' L.length c') ∧ Rw w' 1 (.slice p' L.length c') L ∧ (∀ b, ob (.slice p' L.length c') = some b → w.heap.size ≤ b) ∧ Mo w w' := by
  cases L with
  | nil =>
    cases p with
    | none => exact cli_0 c
    | some a => exact cli_1 a c
  | cons x L =>
    obtain ⟨b, off, rfl, hbl, _⟩ := hr 0 x rfl
    exact cli_2 b off c (x :: L) hL (by simp) hbl (fun k cs h => by obtain ⟨b2, off2, e, _, h2⟩ := hr k cs h; cases e; exact h2) hn
end
end G
end Go.Proofs.Ythfemlhmnjfjiaa
/-
  The tree's New; the document's Bits.
-/
namespace Go.Proofs.Ythfemlhmnjfjiaa
open Go.RowKit
namespace G
theorem Mo.allocm (w : World) : Mo w (w.alloc (.map #[] 0)) := ⟨(Below.refl _ _).alloc (Nat.le_refl _) _, fun a => frozen?_alloc_map w #[] 0 a⟩
section
variable {o : Oper} {n : Nat} {l : List (Nat × Value)} {w : World} {ops : Array Oper} {rest : List Oper} {Q : Exit → Act → World → Prop}
theorem wl_mkm (ho : o.op = .makeMap 66 none) (hg : wnt n l ops o = true)
    (hk : ∀ b w', w.heap.size = b → w'.heap.size = b + 1 → Mo w w' → OM w' b (fun _ => none) 0 → WL Try.prog ops Q rest n (ext l o.dst (.map (some b))) w') : WL Try.prog ops Q (o :: rest) n l w :=
  ⟨l_step hg (o_val (.map (some w.heap.size)) (w' := w.alloc (.map #[] 0)) (by
    have h57 := run_makeMap (P := Try.prog) 66 w
    simp [execOp, ho, h57]) (hk _ _ rfl (by simp) (Mo.allocm w) (OM.new w)).out)⟩
theorem wl_boxc (ty : TypeId) (x : Operand) (v : Value) (cs : Array Value) (ho : o.op = .box ty x) (hx : evl n l x = v) (h : ∀ w, (Instr.box ty v).run Try.prog w = .ok (pt w.heap.size 0) (w.alloc (.cells cs ty))) (hg : wnt n l ops o = true)
    (hk : ∀ k w', w.heap.size = k → Mo w w' → At w' k cs.toList → Cb w' k → WL Try.prog ops Q rest n (ext l o.dst (pt k 0)) w') : WL Try.prog ops Q (o :: rest) n l w :=
  ⟨l_step hg (wo_boxc ty x v cs ho hx h (fun k w' a b c d => (hk k w' a b c d).out)).out⟩
end
section
variable {w : World}
/-- Whole numbers lie there. -/
def SN (w : World) (p : Option Addr) (L : List Int) : Prop := ∀ k x, L[k]? = some x → ∃ b off, p = some ⟨b, off, none⟩ ∧ b < w.heap.size ∧ w.rangeAt b (off + k * 1) [.int .i64 x]
theorem SN.mo {w' : World} {p : Option Addr} {L : List Int} (h : SN w p L) (m : Mo w w') : SN w' p L := fun k x e => by
  obtain ⟨b, off, h1, h2, h3⟩ := h k x e
  exact ⟨b, off, h1, Nat.lt_of_lt_of_le h2 m.size, fun j v hv => (m.cell b _ h2).trans (h3 j v hv)⟩
theorem cli_sc {p : Option Addr} {c : Nat} {sc : List Int} (hr : SN w p sc) (hn : sc.length ≤ 1000000) : Calls Try.prog 29 #[.slice p sc.length c] w fun e w' => ∃ p' c', e = .returned (.slice p' sc.length c') ∧ Rw w' 1 (.slice p' sc.length c') (sc.map (fun x => [.int .i64 x])) ∧ (∀ b, ob (.slice p' sc.length c') = some b → w.heap.size ≤ b) ∧ Mo w w' := by
  have h := cli_n (w := w) (p := p) (c := c) (L := sc.map (fun x => [Value.int .i64 x])) (fun x hx => by obtain ⟨y, _, rfl⟩ := List.mem_map.1 hx; rfl) (fun k cs hk => by
    rw [List.getElem?_map] at hk
    obtain ⟨x, hx, rfl⟩ := Option.map_eq_some_iff.1 hk
    exact hr k x hx) (by rw [List.length_map]; exact hn)
  rw [List.length_map] at h
  exact h
theorem new_no {p : Option Addr} {c : Nat} {sc : List Int} (hgt : decide ((64 : Int) < (sc.length : Int)) = true) : Calls Try.prog 7 #[.slice p sc.length c] w fun e w' => e = .returned (.tuple #[pp none, .int .i64 3]) ∧ Mo w w' := by
  refine w_enter 12 Try.func7 Try.ntmps7 rfl rfl ?_
  have M : Mo w w := Mo.refl _
  refine w_seq ?_
  refine w_reg ?_
  refine wl_mv (.const (.pointer none)) (pp none) (fun _ => rfl) rfl rfl ?_
  refine wl_mv (.const (.int .i64 (0))) (.int .i64 (0)) (fun _ => rfl) rfl rfl ?_
  refine w_nil ?_
  refine xn_then ?_
  refine w_seq ?_
  refine w_seq ?_
  refine w_reg ?_
  refine wl_mv (.tmp 0) (.slice p sc.length c) (fun _ => rfl) rfl rfl ?_
  refine wl_val (.int .i64 ((sc.length : Nat) : Int)) (len22 _ _ _ _ _ (by exact rfl) _ _ _ _ _ _) rfl ?_
  refine wl_bin (fun x y => do eqGuard .gtr 3 (.tmp 5) (.const (.int .i64 (64))) x y; binOp .gtr 3 x y) (.tmp 5) (.const (.int .i64 (64))) (.int .i64 ((sc.length : Nat) : Int)) (.int .i64 (64)) (.bool true) (fun _ => rfl) rfl rfl (gtI hgt _ _ _) rfl ?_
  refine w_nil ?_
  refine xn_then ?_
  refine w_condT rfl ?_
  refine w_seq ?_
  refine w_reg ?_
  refine wl_mv (.const (.pointer none)) (pp none) (fun _ => rfl) rfl rfl ?_
  refine wl_mv (.const (.int .i64 (3))) (.int .i64 (3)) (fun _ => rfl) rfl rfl ?_
  refine w_nil ?_
  refine xn_then ?_
  refine w_ret ?_
  refine xr_then ?_
  exact w_ret2 _ _ (pp none) (.int .i64 (3)) rfl rfl rfl ⟨rfl, M⟩
theorem new_ok {p : Option Addr} {c : Nat} {sc : List Int} (hr : SN w p sc) (hgt : decide ((64 : Int) < (sc.length : Int)) = false) : Calls Try.prog 7 #[.slice p sc.length c] w fun e w' => ∃ (t : Nat) (mb : Hd) (D : Nat → Prop), e = .returned (.tuple #[pt t 0, .int .i64 0]) ∧ FT D w' t mb .e 0 ∧ mb.sc = sc ∧ (∀ j, D j → w.heap.size ≤ j) ∧ w.heap.size ≤ mb.m ∧ (∀ b, ob mb.h = some b → w.heap.size ≤ b) ∧ Mo w w' := by
  have hn64 := of_decide_eq_false hgt
  refine w_enter 12 Try.func7 Try.ntmps7 rfl rfl ?_
  have M : Mo w w := Mo.refl _
  refine w_seq ?_
  refine w_reg ?_
  refine wl_mv (.const (.pointer none)) (pp none) (fun _ => rfl) rfl rfl ?_
  refine wl_mv (.const (.int .i64 (0))) (.int .i64 (0)) (fun _ => rfl) rfl rfl ?_
  refine w_nil ?_
  refine xn_then ?_
  refine w_seq ?_
  refine w_seq ?_
  refine w_reg ?_
  refine wl_mv (.tmp 0) (.slice p sc.length c) (fun _ => rfl) rfl rfl ?_
  refine wl_val (.int .i64 ((sc.length : Nat) : Int)) (len22 _ _ _ _ _ (by exact rfl) _ _ _ _ _ _) rfl ?_
  refine wl_bin (fun x y => do eqGuard .gtr 3 (.tmp 5) (.const (.int .i64 (64))) x y; binOp .gtr 3 x y) (.tmp 5) (.const (.int .i64 (64))) (.int .i64 ((sc.length : Nat) : Int)) (.int .i64 (64)) (.bool false) (fun _ => rfl) rfl rfl (gtI hgt _ _ _) rfl ?_
  refine w_nil ?_
  refine xn_then ?_
  refine w_condF rfl ?_
  refine w_skip ?_
  refine xn_then ?_
  refine w_seq ?_
  refine w_reg ?_
  refine wl_mv (.tmp 0) (.slice p sc.length c) (fun _ => rfl) rfl rfl ?_
  refine wl_callx 29 [(.tmp 7)] _ [.slice p sc.length c] rfl rfl (fun _ _ => by kernel_rfl) (cli_sc hr (by omega)) rfl ?_
  rintro _ w1 ⟨p', c', rfl, hRw, hob, hq⟩
  refine ⟨_, rfl, ?_⟩
  replace M := M.trans hq
  clear hq
  refine wl_mkm rfl rfl ?_
  intro m w2 hb hz hq hM
  have hMs := M.size
  have hmb : w.heap.size ≤ m := by omega
  have hmo : ob (.slice p' sc.length c') ≠ some m := fun e => by have := hRw.lt e; omega
  replace hRw := hRw.mo hq
  replace M := M.trans hq
  clear hz hq
  refine wl_build 68 [(0, (.tmp 8)), (2, (.tmp 9))] [(0, Value.slice p' sc.length c'), (2, .map (some m))] (.agg #[Value.slice p' sc.length c', .pointer none, .map (some m), .int .i64 0]) rfl rfl (by kernel_rfl) rfl ?_
  refine wl_boxc 68 (.tmp 10) (.agg #[Value.slice p' sc.length c', .pointer none, .map (some m), .int .i64 0]) (#[Value.slice p' sc.length c', .pointer none, .map (some m), .int .i64 0]) rfl rfl (fun _ => by kernel_rfl) rfl ?_
  intro t w3 hk hq hA hcb
  have hmt : m < t := by have := hM.lt; omega
  have hMs2 := M.size
  have hts : w.heap.size ≤ t := by omega
  have hto : ob (.slice p' sc.length c') ≠ some t := fun e => by have := hRw.lt e; omega
  replace hRw := hRw.mo hq
  replace hM := hM.mo hq
  replace M := M.trans hq
  refine wl_mv (.tmp 11) (pt t 0) (fun _ => rfl) rfl rfl ?_
  refine wl_mv (.const (.int .i64 (0))) (.int .i64 (0)) (fun _ => rfl) rfl rfl ?_
  refine w_nil ?_
  refine xn_then ?_
  refine w_ret ?_
  exact w_ret2 _ _ (pt t 0) (.int .i64 (0)) rfl rfl rfl ⟨t, ⟨m, .slice p' sc.length c', sc⟩, fun j => j = t, rfl, ⟨⟨fun _ => none, none, ⟨⟨hA, hRw, fun b hb q => hto (q ▸ hb), fun _ _ h => (by cases h), fun _ _ h => (by cases h), fun _ _ h => (by cases h), fun _ _ h => (by cases h), rfl, rfl, fun h => (by cases h), fun h => (by cases h), fun {j} q => (by rw [q]; exact hA.lt), fun (q : m = t) => (by omega), (by show sc.length ≤ 4096; omega)⟩, ⟨fun h => (by cases h), fun h => (by cases h), fun h => (by cases h)⟩, rfl, trivial, List.nodup_nil⟩⟩, hM, trivial, List.nodup_nil, fun _ h => (by cases h), by simp [T.sz], Int.le_refl _, hmo⟩, rfl, fun j q => (by omega), hmb, hob, M⟩
end
end G
end Go.Proofs.Ythfemlhmnjfjiaa
/-
  The tree's Insert.
-/
namespace Go.Proofs.Ythfemlhmnjfjiaa
open Go.RowKit
namespace G
section
variable {D : Nat → Prop} {w : World} {t : Nat} {mb : Hd} {R : Mp} {root : Option Nat} {lk : Int}
theorem neN {a b : Nat} {r : Bool} (h : decide (a = b) = r) (x y : Operand) (w : World) : (do eqGuard .neq 3 x y (.int .i64 (a : Int)) (.int .i64 (b : Int)); binOp .neq 3 (.int .i64 (a : Int)) (.int .i64 (b : Int))).run Try.prog w = .ok (.bool !r) w := by
  have e : (do eqGuard .neq 3 x y (.int .i64 (a : Int)) (.int .i64 (b : Int)); binOp .neq 3 (.int .i64 (a : Int)) (.int .i64 (b : Int))).run Try.prog w = .ok (.bool ((a : Int) != (b : Int))) w := by kernel_rfl
  rw [e, ← h]
  congr 2
  by_cases c : a = b
  · subst c; simp
  · have : ((a : Int) == (b : Int)) = false := beq_eq_false_iff_ne.2 (fun q => c (Int.ofNat.inj q))
    simp [bne, this, c]
theorem len29 (ρ : Operand → Value) (x : Operand) (p : Option Addr) (m c : Nat) (hx : ρ x = .slice p m c) (dst : Option Tmp) (type : TypeId) (pos : String) (after : Array Edge) (guard : Option (Nat × Bool)) (w : World) : (execOp ρ { dst, op := .call { callee := .builtin .len, args := #[x], argTypes := #[29] }, type, pos, after, guard }).run Try.prog w = .ok (.value (.int .i64 (m : Int))) w := by
  simp [go_sem, hx]
/-- Values lie there. -/
def SVv (w : World) (p : Option Addr) (L : List V10) : Prop := ∀ k x, L[k]? = some x → ∃ b off, p = some ⟨b, off, none⟩ ∧ b < w.heap.size ∧ w.rangeAt b (off + k * 10) x.cells
theorem SVv.mo {w' : World} {p : Option Addr} {L : List V10} (h : SVv w p L) (m : Mo w w') : SVv w' p L := fun k x e => by
  obtain ⟨b, off, h1, h2, h3⟩ := h k x e
  exact ⟨b, off, h1, Nat.lt_of_lt_of_le h2 m.size, fun j v hv => (m.cell b _ h2).trans (h3 j v hv)⟩
theorem clv_vs {p : Option Addr} {c : Nat} {L : List V10} (hr : SVv w p L) (hn : L.length ≤ 1000000) : Calls Try.prog 22 #[.slice p L.length c] w fun e w' => ∃ p' c', e = .returned (.slice p' L.length c') ∧ Rw w' 10 (.slice p' L.length c') (L.map V10.cells) ∧ (∀ b, ob (.slice p' L.length c') = some b → w.heap.size ≤ b) ∧ Mo w w' := by
  have h := clv_n (w := w) (p := p) (c := c) (L := L.map V10.cells) (fun x hx => by obtain ⟨y, _, rfl⟩ := List.mem_map.1 hx; rfl) (fun k cs hk => by
    rw [List.getElem?_map] at hk
    obtain ⟨x, hx, rfl⟩ := Option.map_eq_some_iff.1 hk
    exact hr k x hx) (by rw [List.length_map]; exact hn)
  rw [List.length_map] at h
  exact h
theorem insert_v {tr : T} {at0 id : Int} {p : Option Addr} {c : Nat} {vs : List V10} (h : FT D w t mb tr lk) (q7 : decide (vs.length = mb.sc.length) = false) : Calls Try.prog 9 #[pt t 0, .int .i64 at0, .int .i64 id, .slice p vs.length c] w fun e w' => e = .returned (.int .i64 1) ∧ Mo w w' := by
  obtain ⟨R, root, hS, hAp, hC, hR, hn⟩ := h.ts
  have hM := h.om
  obtain ⟨p9, cap9, hsl, _⟩ := hS.sc
  rw [List.length_map] at hsl
  refine w_enter 57 Try.func9 Try.ntmps9 rfl rfl ?_
  have M : Mo w w := Mo.refl _
  refine w_seq ?_
  refine w_reg ?_
  refine wl_mv (.const (.int .i64 (0))) (.int .i64 (0)) (fun _ => rfl) rfl rfl ?_
  refine w_nil ?_
  refine xn_then ?_
  refine w_seq ?_
  refine w_block ?_
  refine w_seq ?_
  refine w_reg ?_
  refine wl_mv (.tmp 0) (pt t 0) (fun _ => rfl) rfl rfl ?_
  refine wl_call 30 [(.tmp 10)] _ [pt t 0] (.bool true) rfl rfl (fun _ _ => by kernel_rfl) (made_n hS) rfl ?_
  intro w1 hq
  replace hS := hS.mo hq
  replace hM := hM.mo hq
  replace M := M.trans hq
  clear hq
  refine wl_un (fun v => Op.unary .not v) (.tmp 11) (.bool true) (.bool false) (fun _ => rfl) rfl (by kernel_rfl) rfl ?_
  refine wl_mv (.tmp 12) (.bool false) (fun _ => rfl) rfl rfl ?_
  refine w_nil ?_
  refine xn_then ?_
  refine w_condF rfl ?_
  refine w_seq ?_
  refine w_reg ?_
  refine wl_mv (.tmp 3) (.slice p vs.length c) (fun _ => rfl) rfl rfl ?_
  refine wl_val (.int .i64 ((vs.length : Nat) : Int)) (len29 _ _ _ _ _ (by exact rfl) _ _ _ _ _ _) rfl ?_
  refine wl_mv (.tmp 0) (pt t 0) (fun _ => rfl) rfl rfl ?_
  refine wl_nc (.tmp 16) t 0 rfl rfl rfl ?_
  refine wl_un (fun v => Instr.fieldAt 68 v 0) (.tmp 17) (pt t 0) (pt t 0) (fun _ => rfl) rfl (by kernel_rfl) rfl ?_
  refine wl_load 22 (.tmp 18) (pt t 0) (mb.h) rfl rfl (run_one hS.tr 22 0 rfl Try.underlying22 rfl) rfl ?_
  refine wl_val (.int .i64 ((mb.sc.length : Nat) : Int)) (len22 _ _ _ _ _ (Eq.trans (b := mb.h) (by exact rfl) hsl) _ _ _ _ _ _) rfl ?_
  refine wl_bin (fun x y => do eqGuard .neq 3 (.tmp 15) (.tmp 20) x y; binOp .neq 3 x y) (.tmp 15) (.tmp 20) (.int .i64 ((vs.length : Nat) : Int)) (.int .i64 ((mb.sc.length : Nat) : Int)) (.bool true) (fun _ => rfl) rfl rfl (neN q7 _ _ _) rfl ?_
  refine wl_mv (.tmp 21) (.bool true) (fun _ => rfl) rfl rfl ?_
  refine w_nil ?_
  refine xn_then ?_
  refine w_condT rfl ?_
  refine w_seq ?_
  refine w_reg ?_
  refine wl_mv (.const (.int .i64 (1))) (.int .i64 (1)) (fun _ => rfl) rfl rfl ?_
  refine w_nil ?_
  refine xn_then ?_
  refine w_ret ?_
  refine xr_blk ?_
  refine xr_then ?_
  exact w_ret1 _ (.int .i64 (1)) rfl rfl ⟨rfl, M⟩
theorem insert_a {tr : T} {at0 id : Int} {p : Option Addr} {c : Nat} {vs : List V10} (h : FT D w t mb tr lk) (q7 : decide (vs.length = mb.sc.length) = true) (q0 : decide (id < 1) = true) : Calls Try.prog 9 #[pt t 0, .int .i64 at0, .int .i64 id, .slice p vs.length c] w fun e w' => e = .returned (.int .i64 1) ∧ Mo w w' := by
  obtain ⟨R, root, hS, hAp, hC, hR, hn⟩ := h.ts
  have hM := h.om
  obtain ⟨p9, cap9, hsl, _⟩ := hS.sc
  rw [List.length_map] at hsl
  refine w_enter 57 Try.func9 Try.ntmps9 rfl rfl ?_
  have M : Mo w w := Mo.refl _
  refine w_seq ?_
  refine w_reg ?_
  refine wl_mv (.const (.int .i64 (0))) (.int .i64 (0)) (fun _ => rfl) rfl rfl ?_
  refine w_nil ?_
  refine xn_then ?_
  refine w_seq ?_
  refine w_block ?_
  refine w_seq ?_
  refine w_reg ?_
  refine wl_mv (.tmp 0) (pt t 0) (fun _ => rfl) rfl rfl ?_
  refine wl_call 30 [(.tmp 10)] _ [pt t 0] (.bool true) rfl rfl (fun _ _ => by kernel_rfl) (made_n hS) rfl ?_
  intro w1 hq
  replace hS := hS.mo hq
  replace hM := hM.mo hq
  replace M := M.trans hq
  clear hq
  refine wl_un (fun v => Op.unary .not v) (.tmp 11) (.bool true) (.bool false) (fun _ => rfl) rfl (by kernel_rfl) rfl ?_
  refine wl_mv (.tmp 12) (.bool false) (fun _ => rfl) rfl rfl ?_
  refine w_nil ?_
  refine xn_then ?_
  refine w_condF rfl ?_
  refine w_seq ?_
  refine w_reg ?_
  refine wl_mv (.tmp 3) (.slice p vs.length c) (fun _ => rfl) rfl rfl ?_
  refine wl_val (.int .i64 ((vs.length : Nat) : Int)) (len29 _ _ _ _ _ (by exact rfl) _ _ _ _ _ _) rfl ?_
  refine wl_mv (.tmp 0) (pt t 0) (fun _ => rfl) rfl rfl ?_
  refine wl_nc (.tmp 16) t 0 rfl rfl rfl ?_
  refine wl_un (fun v => Instr.fieldAt 68 v 0) (.tmp 17) (pt t 0) (pt t 0) (fun _ => rfl) rfl (by kernel_rfl) rfl ?_
  refine wl_load 22 (.tmp 18) (pt t 0) (mb.h) rfl rfl (run_one hS.tr 22 0 rfl Try.underlying22 rfl) rfl ?_
  refine wl_val (.int .i64 ((mb.sc.length : Nat) : Int)) (len22 _ _ _ _ _ (Eq.trans (b := mb.h) (by exact rfl) hsl) _ _ _ _ _ _) rfl ?_
  refine wl_bin (fun x y => do eqGuard .neq 3 (.tmp 15) (.tmp 20) x y; binOp .neq 3 x y) (.tmp 15) (.tmp 20) (.int .i64 ((vs.length : Nat) : Int)) (.int .i64 ((mb.sc.length : Nat) : Int)) (.bool false) (fun _ => rfl) rfl rfl (neN q7 _ _ _) rfl ?_
  refine wl_mv (.tmp 21) (.bool false) (fun _ => rfl) rfl rfl ?_
  refine w_nil ?_
  refine xn_then ?_
  refine w_condF rfl ?_
  refine w_seq ?_
  refine w_reg ?_
  refine wl_mv (.tmp 2) (.int .i64 (id)) (fun _ => rfl) rfl rfl ?_
  refine wl_bin (fun x y => do eqGuard .lss 2 (.tmp 23) (.const (.int .i64 (1))) x y; binOp .lss 2 x y) (.tmp 23) (.const (.int .i64 (1))) (.int .i64 (id)) (.int .i64 (1)) (.bool true) (fun _ => rfl) rfl rfl (ltL q0 _ _ _) rfl ?_
  refine wl_mv (.tmp 24) (.bool true) (fun _ => rfl) rfl rfl ?_
  refine wl_skip rfl ?_
  refine wl_skip rfl ?_
  refine wl_pick (.tmp 25) (.const (.bool true)) (.tmp 27) true (.bool true) (fun _ => rfl) rfl rfl rfl ?_
  refine wl_mv (.tmp 28) (.bool true) (fun _ => rfl) rfl rfl ?_
  refine w_nil ?_
  refine xn_then ?_
  refine w_condT rfl ?_
  refine w_seq ?_
  refine w_reg ?_
  refine wl_mv (.const (.int .i64 (1))) (.int .i64 (1)) (fun _ => rfl) rfl rfl ?_
  refine w_nil ?_
  refine xn_then ?_
  refine w_ret ?_
  refine xr_blk ?_
  refine xr_then ?_
  exact w_ret1 _ (.int .i64 (1)) rfl rfl ⟨rfl, M⟩
theorem insert_b {tr : T} {at0 id : Int} {p : Option Addr} {c : Nat} {vs : List V10} (h : FT D w t mb tr lk) (q7 : decide (vs.length = mb.sc.length) = true) (q0 : decide (id < 1) = false) (q1 : decide (9007199254740992 < id) = true) : Calls Try.prog 9 #[pt t 0, .int .i64 at0, .int .i64 id, .slice p vs.length c] w fun e w' => e = .returned (.int .i64 1) ∧ Mo w w' := by
  obtain ⟨R, root, hS, hAp, hC, hR, hn⟩ := h.ts
  have hM := h.om
  obtain ⟨p9, cap9, hsl, _⟩ := hS.sc
  rw [List.length_map] at hsl
  refine w_enter 57 Try.func9 Try.ntmps9 rfl rfl ?_
  have M : Mo w w := Mo.refl _
  refine w_seq ?_
  refine w_reg ?_
  refine wl_mv (.const (.int .i64 (0))) (.int .i64 (0)) (fun _ => rfl) rfl rfl ?_
  refine w_nil ?_
  refine xn_then ?_
  refine w_seq ?_
  refine w_block ?_
  refine w_seq ?_
  refine w_reg ?_
  refine wl_mv (.tmp 0) (pt t 0) (fun _ => rfl) rfl rfl ?_
  refine wl_call 30 [(.tmp 10)] _ [pt t 0] (.bool true) rfl rfl (fun _ _ => by kernel_rfl) (made_n hS) rfl ?_
  intro w1 hq
  replace hS := hS.mo hq
  replace hM := hM.mo hq
  replace M := M.trans hq
  clear hq
  refine wl_un (fun v => Op.unary .not v) (.tmp 11) (.bool true) (.bool false) (fun _ => rfl) rfl (by kernel_rfl) rfl ?_
  refine wl_mv (.tmp 12) (.bool false) (fun _ => rfl) rfl rfl ?_
  refine w_nil ?_
  refine xn_then ?_
  refine w_condF rfl ?_
  refine w_seq ?_
  refine w_reg ?_
  refine wl_mv (.tmp 3) (.slice p vs.length c) (fun _ => rfl) rfl rfl ?_
  refine wl_val (.int .i64 ((vs.length : Nat) : Int)) (len29 _ _ _ _ _ (by exact rfl) _ _ _ _ _ _) rfl ?_
  refine wl_mv (.tmp 0) (pt t 0) (fun _ => rfl) rfl rfl ?_
  refine wl_nc (.tmp 16) t 0 rfl rfl rfl ?_
  refine wl_un (fun v => Instr.fieldAt 68 v 0) (.tmp 17) (pt t 0) (pt t 0) (fun _ => rfl) rfl (by kernel_rfl) rfl ?_
  refine wl_load 22 (.tmp 18) (pt t 0) (mb.h) rfl rfl (run_one hS.tr 22 0 rfl Try.underlying22 rfl) rfl ?_
  refine wl_val (.int .i64 ((mb.sc.length : Nat) : Int)) (len22 _ _ _ _ _ (Eq.trans (b := mb.h) (by exact rfl) hsl) _ _ _ _ _ _) rfl ?_
  refine wl_bin (fun x y => do eqGuard .neq 3 (.tmp 15) (.tmp 20) x y; binOp .neq 3 x y) (.tmp 15) (.tmp 20) (.int .i64 ((vs.length : Nat) : Int)) (.int .i64 ((mb.sc.length : Nat) : Int)) (.bool false) (fun _ => rfl) rfl rfl (neN q7 _ _ _) rfl ?_
  refine wl_mv (.tmp 21) (.bool false) (fun _ => rfl) rfl rfl ?_
  refine w_nil ?_
  refine xn_then ?_
  refine w_condF rfl ?_
  refine w_seq ?_
  refine w_reg ?_
  refine wl_mv (.tmp 2) (.int .i64 (id)) (fun _ => rfl) rfl rfl ?_
  refine wl_bin (fun x y => do eqGuard .lss 2 (.tmp 23) (.const (.int .i64 (1))) x y; binOp .lss 2 x y) (.tmp 23) (.const (.int .i64 (1))) (.int .i64 (id)) (.int .i64 (1)) (.bool false) (fun _ => rfl) rfl rfl (ltL q0 _ _ _) rfl ?_
  refine wl_mv (.tmp 24) (.bool false) (fun _ => rfl) rfl rfl ?_
  refine wl_mv (.tmp 2) (.int .i64 (id)) (fun _ => rfl) rfl rfl ?_
  refine wl_bin (fun x y => do eqGuard .gtr 2 (.tmp 26) (.const (.int .i64 (9007199254740992))) x y; binOp .gtr 2 x y) (.tmp 26) (.const (.int .i64 (9007199254740992))) (.int .i64 (id)) (.int .i64 (9007199254740992)) (.bool true) (fun _ => rfl) rfl rfl (gtL q1 _ _ _) rfl ?_
  refine wl_pick (.tmp 25) (.const (.bool true)) (.tmp 27) false (.bool true) (fun _ => rfl) rfl rfl rfl ?_
  refine wl_mv (.tmp 28) (.bool true) (fun _ => rfl) rfl rfl ?_
  refine w_nil ?_
  refine xn_then ?_
  refine w_condT rfl ?_
  refine w_seq ?_
  refine w_reg ?_
  refine wl_mv (.const (.int .i64 (1))) (.int .i64 (1)) (fun _ => rfl) rfl rfl ?_
  refine w_nil ?_
  refine xn_then ?_
  refine w_ret ?_
  refine xr_blk ?_
  refine xr_then ?_
  exact w_ret1 _ (.int .i64 (1)) rfl rfl ⟨rfl, M⟩
theorem insert_c {tr : T} {at0 id : Int} {p : Option Addr} {c : Nat} {vs : List V10} (h : FT D w t mb tr lk) (hi : -9223372036854775808 ≤ id ∧ id ≤ 9223372036854775807) (q7 : decide (vs.length = mb.sc.length) = true) (q0 : decide (id < 1) = false) (q1 : decide (9007199254740992 < id) = false) (q2 : (adr tr.kv id).isSome = true) : Calls Try.prog 9 #[pt t 0, .int .i64 at0, .int .i64 id, .slice p vs.length c] w fun e w' => e = .returned (.int .i64 5) ∧ Mo w w' := by
  have hw : (Lit.int .i64 id).wf = true := WalkArith.wf_i64 ⟨hi.1, hi.2⟩
  obtain ⟨R, root, hS, hAp, hC, hR, hn⟩ := h.ts
  have hM := h.om
  obtain ⟨p9, cap9, hsl, _⟩ := hS.sc
  rw [List.length_map] at hsl
  refine w_enter 57 Try.func9 Try.ntmps9 rfl rfl ?_
  have M : Mo w w := Mo.refl _
  refine w_seq ?_
  refine w_reg ?_
  refine wl_mv (.const (.int .i64 (0))) (.int .i64 (0)) (fun _ => rfl) rfl rfl ?_
  refine w_nil ?_
  refine xn_then ?_
  refine w_seq ?_
  refine w_block ?_
  refine w_seq ?_
  refine w_reg ?_
  refine wl_mv (.tmp 0) (pt t 0) (fun _ => rfl) rfl rfl ?_
  refine wl_call 30 [(.tmp 10)] _ [pt t 0] (.bool true) rfl rfl (fun _ _ => by kernel_rfl) (made_n hS) rfl ?_
  intro w1 hq
  replace hS := hS.mo hq
  replace hM := hM.mo hq
  replace M := M.trans hq
  clear hq
  refine wl_un (fun v => Op.unary .not v) (.tmp 11) (.bool true) (.bool false) (fun _ => rfl) rfl (by kernel_rfl) rfl ?_
  refine wl_mv (.tmp 12) (.bool false) (fun _ => rfl) rfl rfl ?_
  refine w_nil ?_
  refine xn_then ?_
  refine w_condF rfl ?_
  refine w_seq ?_
  refine w_reg ?_
  refine wl_mv (.tmp 3) (.slice p vs.length c) (fun _ => rfl) rfl rfl ?_
  refine wl_val (.int .i64 ((vs.length : Nat) : Int)) (len29 _ _ _ _ _ (by exact rfl) _ _ _ _ _ _) rfl ?_
  refine wl_mv (.tmp 0) (pt t 0) (fun _ => rfl) rfl rfl ?_
  refine wl_nc (.tmp 16) t 0 rfl rfl rfl ?_
  refine wl_un (fun v => Instr.fieldAt 68 v 0) (.tmp 17) (pt t 0) (pt t 0) (fun _ => rfl) rfl (by kernel_rfl) rfl ?_
  refine wl_load 22 (.tmp 18) (pt t 0) (mb.h) rfl rfl (run_one hS.tr 22 0 rfl Try.underlying22 rfl) rfl ?_
  refine wl_val (.int .i64 ((mb.sc.length : Nat) : Int)) (len22 _ _ _ _ _ (Eq.trans (b := mb.h) (by exact rfl) hsl) _ _ _ _ _ _) rfl ?_
  refine wl_bin (fun x y => do eqGuard .neq 3 (.tmp 15) (.tmp 20) x y; binOp .neq 3 x y) (.tmp 15) (.tmp 20) (.int .i64 ((vs.length : Nat) : Int)) (.int .i64 ((mb.sc.length : Nat) : Int)) (.bool false) (fun _ => rfl) rfl rfl (neN q7 _ _ _) rfl ?_
  refine wl_mv (.tmp 21) (.bool false) (fun _ => rfl) rfl rfl ?_
  refine w_nil ?_
  refine xn_then ?_
  refine w_condF rfl ?_
  refine w_seq ?_
  refine w_reg ?_
  refine wl_mv (.tmp 2) (.int .i64 (id)) (fun _ => rfl) rfl rfl ?_
  refine wl_bin (fun x y => do eqGuard .lss 2 (.tmp 23) (.const (.int .i64 (1))) x y; binOp .lss 2 x y) (.tmp 23) (.const (.int .i64 (1))) (.int .i64 (id)) (.int .i64 (1)) (.bool false) (fun _ => rfl) rfl rfl (ltL q0 _ _ _) rfl ?_
  refine wl_mv (.tmp 24) (.bool false) (fun _ => rfl) rfl rfl ?_
  refine wl_mv (.tmp 2) (.int .i64 (id)) (fun _ => rfl) rfl rfl ?_
  refine wl_bin (fun x y => do eqGuard .gtr 2 (.tmp 26) (.const (.int .i64 (9007199254740992))) x y; binOp .gtr 2 x y) (.tmp 26) (.const (.int .i64 (9007199254740992))) (.int .i64 (id)) (.int .i64 (9007199254740992)) (.bool false) (fun _ => rfl) rfl rfl (gtL q1 _ _ _) rfl ?_
  refine wl_pick (.tmp 25) (.const (.bool true)) (.tmp 27) false (.bool false) (fun _ => rfl) rfl rfl rfl ?_
  refine wl_mv (.tmp 28) (.bool false) (fun _ => rfl) rfl rfl ?_
  refine w_nil ?_
  refine xn_then ?_
  refine w_condF rfl ?_
  refine w_seq ?_
  refine w_reg ?_
  refine wl_mv (.tmp 0) (pt t 0) (fun _ => rfl) rfl rfl ?_
  refine wl_nc (.tmp 30) t 0 rfl rfl rfl ?_
  refine wl_un (fun v => Instr.fieldAt 68 v 2) (.tmp 31) (pt t 0) (pt t 2) (fun _ => rfl) rfl (by kernel_rfl) rfl ?_
  refine wl_load 66 (.tmp 32) (pt t 2) (.map (some mb.m)) rfl rfl (run_one hS.tr 66 2 rfl Try.underlying66 rfl) rfl ?_
  refine wl_mv (.tmp 2) (.int .i64 (id)) (fun _ => rfl) rfl rfl ?_
  refine wl_bin (fun x y => Instr.lookup 66 x y false) (.tmp 33) (.tmp 34) (.map (some mb.m)) (.int .i64 (id)) (pp (adr tr.kv id)) (fun _ => rfl) rfl rfl (hM.look hw) rfl ?_
  refine wl_bin (fun x y => do eqGuard .neq 65 (.tmp 35) (.const (.pointer none)) x y; binOp .neq 65 x y) (.tmp 35) (.const (.pointer none)) (pp (adr tr.kv id)) (pp none) (.bool true) (fun _ => rfl) rfl rfl (nePb q2 _ _ _) rfl ?_
  refine wl_mv (.tmp 36) (.bool true) (fun _ => rfl) rfl rfl ?_
  refine w_nil ?_
  refine xn_then ?_
  refine w_condT rfl ?_
  refine w_seq ?_
  refine w_reg ?_
  refine wl_mv (.const (.int .i64 (5))) (.int .i64 (5)) (fun _ => rfl) rfl rfl ?_
  refine w_nil ?_
  refine xn_then ?_
  refine w_ret ?_
  refine xr_blk ?_
  refine xr_then ?_
  exact w_ret1 _ (.int .i64 (5)) rfl rfl ⟨rfl, M⟩
theorem insert_d {tr : T} {at0 id : Int} {p : Option Addr} {c : Nat} {vs : List V10} (h : FT D w t mb tr lk) (hi : -9223372036854775808 ≤ id ∧ id ≤ 9223372036854775807) (q7 : decide (vs.length = mb.sc.length) = true) (q0 : decide (id < 1) = false) (q1 : decide (9007199254740992 < id) = false) (q2 : (adr tr.kv id).isSome = false) (q3 : decide (1024 ≤ (tr.kv.length : Int)) = true) : Calls Try.prog 9 #[pt t 0, .int .i64 at0, .int .i64 id, .slice p vs.length c] w fun e w' => e = .returned (.int .i64 6) ∧ Mo w w' := by
  have hw : (Lit.int .i64 id).wf = true := WalkArith.wf_i64 ⟨hi.1, hi.2⟩
  obtain ⟨R, root, hS, hAp, hC, hR, hn⟩ := h.ts
  have hM := h.om
  obtain ⟨p9, cap9, hsl, _⟩ := hS.sc
  rw [List.length_map] at hsl
  refine w_enter 57 Try.func9 Try.ntmps9 rfl rfl ?_
  have M : Mo w w := Mo.refl _
  refine w_seq ?_
  refine w_reg ?_
  refine wl_mv (.const (.int .i64 (0))) (.int .i64 (0)) (fun _ => rfl) rfl rfl ?_
  refine w_nil ?_
  refine xn_then ?_
  refine w_seq ?_
  refine w_block ?_
  refine w_seq ?_
  refine w_reg ?_
  refine wl_mv (.tmp 0) (pt t 0) (fun _ => rfl) rfl rfl ?_
  refine wl_call 30 [(.tmp 10)] _ [pt t 0] (.bool true) rfl rfl (fun _ _ => by kernel_rfl) (made_n hS) rfl ?_
  intro w1 hq
  replace hS := hS.mo hq
  replace hM := hM.mo hq
  replace M := M.trans hq
  clear hq
  refine wl_un (fun v => Op.unary .not v) (.tmp 11) (.bool true) (.bool false) (fun _ => rfl) rfl (by kernel_rfl) rfl ?_
  refine wl_mv (.tmp 12) (.bool false) (fun _ => rfl) rfl rfl ?_
  refine w_nil ?_
  refine xn_then ?_
  refine w_condF rfl ?_
  refine w_seq ?_
  refine w_reg ?_
  refine wl_mv (.tmp 3) (.slice p vs.length c) (fun _ => rfl) rfl rfl ?_
  refine wl_val (.int .i64 ((vs.length : Nat) : Int)) (len29 _ _ _ _ _ (by exact rfl) _ _ _ _ _ _) rfl ?_
  refine wl_mv (.tmp 0) (pt t 0) (fun _ => rfl) rfl rfl ?_
  refine wl_nc (.tmp 16) t 0 rfl rfl rfl ?_
  refine wl_un (fun v => Instr.fieldAt 68 v 0) (.tmp 17) (pt t 0) (pt t 0) (fun _ => rfl) rfl (by kernel_rfl) rfl ?_
  refine wl_load 22 (.tmp 18) (pt t 0) (mb.h) rfl rfl (run_one hS.tr 22 0 rfl Try.underlying22 rfl) rfl ?_
  refine wl_val (.int .i64 ((mb.sc.length : Nat) : Int)) (len22 _ _ _ _ _ (Eq.trans (b := mb.h) (by exact rfl) hsl) _ _ _ _ _ _) rfl ?_
  refine wl_bin (fun x y => do eqGuard .neq 3 (.tmp 15) (.tmp 20) x y; binOp .neq 3 x y) (.tmp 15) (.tmp 20) (.int .i64 ((vs.length : Nat) : Int)) (.int .i64 ((mb.sc.length : Nat) : Int)) (.bool false) (fun _ => rfl) rfl rfl (neN q7 _ _ _) rfl ?_
  refine wl_mv (.tmp 21) (.bool false) (fun _ => rfl) rfl rfl ?_
  refine w_nil ?_
  refine xn_then ?_
  refine w_condF rfl ?_
  refine w_seq ?_
  refine w_reg ?_
  refine wl_mv (.tmp 2) (.int .i64 (id)) (fun _ => rfl) rfl rfl ?_
  refine wl_bin (fun x y => do eqGuard .lss 2 (.tmp 23) (.const (.int .i64 (1))) x y; binOp .lss 2 x y) (.tmp 23) (.const (.int .i64 (1))) (.int .i64 (id)) (.int .i64 (1)) (.bool false) (fun _ => rfl) rfl rfl (ltL q0 _ _ _) rfl ?_
  refine wl_mv (.tmp 24) (.bool false) (fun _ => rfl) rfl rfl ?_
  refine wl_mv (.tmp 2) (.int .i64 (id)) (fun _ => rfl) rfl rfl ?_
  refine wl_bin (fun x y => do eqGuard .gtr 2 (.tmp 26) (.const (.int .i64 (9007199254740992))) x y; binOp .gtr 2 x y) (.tmp 26) (.const (.int .i64 (9007199254740992))) (.int .i64 (id)) (.int .i64 (9007199254740992)) (.bool false) (fun _ => rfl) rfl rfl (gtL q1 _ _ _) rfl ?_
  refine wl_pick (.tmp 25) (.const (.bool true)) (.tmp 27) false (.bool false) (fun _ => rfl) rfl rfl rfl ?_
  refine wl_mv (.tmp 28) (.bool false) (fun _ => rfl) rfl rfl ?_
  refine w_nil ?_
  refine xn_then ?_
  refine w_condF rfl ?_
  refine w_seq ?_
  refine w_reg ?_
  refine wl_mv (.tmp 0) (pt t 0) (fun _ => rfl) rfl rfl ?_
  refine wl_nc (.tmp 30) t 0 rfl rfl rfl ?_
  refine wl_un (fun v => Instr.fieldAt 68 v 2) (.tmp 31) (pt t 0) (pt t 2) (fun _ => rfl) rfl (by kernel_rfl) rfl ?_
  refine wl_load 66 (.tmp 32) (pt t 2) (.map (some mb.m)) rfl rfl (run_one hS.tr 66 2 rfl Try.underlying66 rfl) rfl ?_
  refine wl_mv (.tmp 2) (.int .i64 (id)) (fun _ => rfl) rfl rfl ?_
  refine wl_bin (fun x y => Instr.lookup 66 x y false) (.tmp 33) (.tmp 34) (.map (some mb.m)) (.int .i64 (id)) (pp (adr tr.kv id)) (fun _ => rfl) rfl rfl (hM.look hw) rfl ?_
  refine wl_bin (fun x y => do eqGuard .neq 65 (.tmp 35) (.const (.pointer none)) x y; binOp .neq 65 x y) (.tmp 35) (.const (.pointer none)) (pp (adr tr.kv id)) (pp none) (.bool false) (fun _ => rfl) rfl rfl (nePb q2 _ _ _) rfl ?_
  refine wl_mv (.tmp 36) (.bool false) (fun _ => rfl) rfl rfl ?_
  refine w_nil ?_
  refine xn_then ?_
  refine w_condF rfl ?_
  refine w_seq ?_
  refine w_reg ?_
  refine wl_mv (.tmp 0) (pt t 0) (fun _ => rfl) rfl rfl ?_
  refine wl_call 10 [(.tmp 38)] _ [pt t 0] (.int .i64 ((tr.kv.length : Int))) rfl rfl (fun _ _ => by kernel_rfl) (len_n hS hM) rfl ?_
  intro w2 hq
  replace hS := hS.mo hq
  replace hM := hM.mo hq
  replace M := M.trans hq
  clear hq
  refine wl_bin (fun x y => do eqGuard .geq 3 (.tmp 39) (.const (.int .i64 (1024))) x y; binOp .geq 3 x y) (.tmp 39) (.const (.int .i64 (1024))) (.int .i64 ((tr.kv.length : Int))) (.int .i64 (1024)) (.bool true) (fun _ => rfl) rfl rfl (geI q3 _ _ _) rfl ?_
  refine wl_mv (.tmp 40) (.bool true) (fun _ => rfl) rfl rfl ?_
  refine w_nil ?_
  refine xn_then ?_
  refine w_condT rfl ?_
  refine w_seq ?_
  refine w_reg ?_
  refine wl_mv (.const (.int .i64 (6))) (.int .i64 (6)) (fun _ => rfl) rfl rfl ?_
  refine w_nil ?_
  refine xn_then ?_
  refine w_ret ?_
  refine xr_blk ?_
  refine xr_then ?_
  exact w_ret1 _ (.int .i64 (6)) rfl rfl ⟨rfl, M⟩
theorem insert_e {tr : T} {at0 id : Int} {p : Option Addr} {c : Nat} {vs : List V10} (h : FT D w t mb tr lk) (hi : -9223372036854775808 ≤ id ∧ id ≤ 9223372036854775807) (q7 : decide (vs.length = mb.sc.length) = true) (q0 : decide (id < 1) = false) (q1 : decide (9007199254740992 < id) = false) (q2 : (adr tr.kv id).isSome = false) (q3 : decide (1024 ≤ (tr.kv.length : Int)) = false) (q4 : decide (at0 < 0) = true) : Calls Try.prog 9 #[pt t 0, .int .i64 at0, .int .i64 id, .slice p vs.length c] w fun e w' => e = .returned (.int .i64 1) ∧ Mo w w' := by
  have hw : (Lit.int .i64 id).wf = true := WalkArith.wf_i64 ⟨hi.1, hi.2⟩
  obtain ⟨R, root, hS, hAp, hC, hR, hn⟩ := h.ts
  have hM := h.om
  obtain ⟨p9, cap9, hsl, _⟩ := hS.sc
  rw [List.length_map] at hsl
  refine w_enter 57 Try.func9 Try.ntmps9 rfl rfl ?_
  have M : Mo w w := Mo.refl _
  refine w_seq ?_
  refine w_reg ?_
  refine wl_mv (.const (.int .i64 (0))) (.int .i64 (0)) (fun _ => rfl) rfl rfl ?_
  refine w_nil ?_
  refine xn_then ?_
  refine w_seq ?_
  refine w_block ?_
  refine w_seq ?_
  refine w_reg ?_
  refine wl_mv (.tmp 0) (pt t 0) (fun _ => rfl) rfl rfl ?_
  refine wl_call 30 [(.tmp 10)] _ [pt t 0] (.bool true) rfl rfl (fun _ _ => by kernel_rfl) (made_n hS) rfl ?_
  intro w1 hq
  replace hS := hS.mo hq
  replace hM := hM.mo hq
  replace M := M.trans hq
  clear hq
  refine wl_un (fun v => Op.unary .not v) (.tmp 11) (.bool true) (.bool false) (fun _ => rfl) rfl (by kernel_rfl) rfl ?_
  refine wl_mv (.tmp 12) (.bool false) (fun _ => rfl) rfl rfl ?_
  refine w_nil ?_
  refine xn_then ?_
  refine w_condF rfl ?_
  refine w_seq ?_
  refine w_reg ?_
  refine wl_mv (.tmp 3) (.slice p vs.length c) (fun _ => rfl) rfl rfl ?_
  refine wl_val (.int .i64 ((vs.length : Nat) : Int)) (len29 _ _ _ _ _ (by exact rfl) _ _ _ _ _ _) rfl ?_
  refine wl_mv (.tmp 0) (pt t 0) (fun _ => rfl) rfl rfl ?_
  refine wl_nc (.tmp 16) t 0 rfl rfl rfl ?_
  refine wl_un (fun v => Instr.fieldAt 68 v 0) (.tmp 17) (pt t 0) (pt t 0) (fun _ => rfl) rfl (by kernel_rfl) rfl ?_
  refine wl_load 22 (.tmp 18) (pt t 0) (mb.h) rfl rfl (run_one hS.tr 22 0 rfl Try.underlying22 rfl) rfl ?_
  refine wl_val (.int .i64 ((mb.sc.length : Nat) : Int)) (len22 _ _ _ _ _ (Eq.trans (b := mb.h) (by exact rfl) hsl) _ _ _ _ _ _) rfl ?_
  refine wl_bin (fun x y => do eqGuard .neq 3 (.tmp 15) (.tmp 20) x y; binOp .neq 3 x y) (.tmp 15) (.tmp 20) (.int .i64 ((vs.length : Nat) : Int)) (.int .i64 ((mb.sc.length : Nat) : Int)) (.bool false) (fun _ => rfl) rfl rfl (neN q7 _ _ _) rfl ?_
  refine wl_mv (.tmp 21) (.bool false) (fun _ => rfl) rfl rfl ?_
  refine w_nil ?_
  refine xn_then ?_
  refine w_condF rfl ?_
  refine w_seq ?_
  refine w_reg ?_
  refine wl_mv (.tmp 2) (.int .i64 (id)) (fun _ => rfl) rfl rfl ?_
  refine wl_bin (fun x y => do eqGuard .lss 2 (.tmp 23) (.const (.int .i64 (1))) x y; binOp .lss 2 x y) (.tmp 23) (.const (.int .i64 (1))) (.int .i64 (id)) (.int .i64 (1)) (.bool false) (fun _ => rfl) rfl rfl (ltL q0 _ _ _) rfl ?_
  refine wl_mv (.tmp 24) (.bool false) (fun _ => rfl) rfl rfl ?_
  refine wl_mv (.tmp 2) (.int .i64 (id)) (fun _ => rfl) rfl rfl ?_
  refine wl_bin (fun x y => do eqGuard .gtr 2 (.tmp 26) (.const (.int .i64 (9007199254740992))) x y; binOp .gtr 2 x y) (.tmp 26) (.const (.int .i64 (9007199254740992))) (.int .i64 (id)) (.int .i64 (9007199254740992)) (.bool false) (fun _ => rfl) rfl rfl (gtL q1 _ _ _) rfl ?_
  refine wl_pick (.tmp 25) (.const (.bool true)) (.tmp 27) false (.bool false) (fun _ => rfl) rfl rfl rfl ?_
  refine wl_mv (.tmp 28) (.bool false) (fun _ => rfl) rfl rfl ?_
  refine w_nil ?_
  refine xn_then ?_
  refine w_condF rfl ?_
  refine w_seq ?_
  refine w_reg ?_
  refine wl_mv (.tmp 0) (pt t 0) (fun _ => rfl) rfl rfl ?_
  refine wl_nc (.tmp 30) t 0 rfl rfl rfl ?_
  refine wl_un (fun v => Instr.fieldAt 68 v 2) (.tmp 31) (pt t 0) (pt t 2) (fun _ => rfl) rfl (by kernel_rfl) rfl ?_
  refine wl_load 66 (.tmp 32) (pt t 2) (.map (some mb.m)) rfl rfl (run_one hS.tr 66 2 rfl Try.underlying66 rfl) rfl ?_
  refine wl_mv (.tmp 2) (.int .i64 (id)) (fun _ => rfl) rfl rfl ?_
  refine wl_bin (fun x y => Instr.lookup 66 x y false) (.tmp 33) (.tmp 34) (.map (some mb.m)) (.int .i64 (id)) (pp (adr tr.kv id)) (fun _ => rfl) rfl rfl (hM.look hw) rfl ?_
  refine wl_bin (fun x y => do eqGuard .neq 65 (.tmp 35) (.const (.pointer none)) x y; binOp .neq 65 x y) (.tmp 35) (.const (.pointer none)) (pp (adr tr.kv id)) (pp none) (.bool false) (fun _ => rfl) rfl rfl (nePb q2 _ _ _) rfl ?_
  refine wl_mv (.tmp 36) (.bool false) (fun _ => rfl) rfl rfl ?_
  refine w_nil ?_
  refine xn_then ?_
  refine w_condF rfl ?_
  refine w_seq ?_
  refine w_reg ?_
  refine wl_mv (.tmp 0) (pt t 0) (fun _ => rfl) rfl rfl ?_
  refine wl_call 10 [(.tmp 38)] _ [pt t 0] (.int .i64 ((tr.kv.length : Int))) rfl rfl (fun _ _ => by kernel_rfl) (len_n hS hM) rfl ?_
  intro w2 hq
  replace hS := hS.mo hq
  replace hM := hM.mo hq
  replace M := M.trans hq
  clear hq
  refine wl_bin (fun x y => do eqGuard .geq 3 (.tmp 39) (.const (.int .i64 (1024))) x y; binOp .geq 3 x y) (.tmp 39) (.const (.int .i64 (1024))) (.int .i64 ((tr.kv.length : Int))) (.int .i64 (1024)) (.bool false) (fun _ => rfl) rfl rfl (geI q3 _ _ _) rfl ?_
  refine wl_mv (.tmp 40) (.bool false) (fun _ => rfl) rfl rfl ?_
  refine w_nil ?_
  refine xn_then ?_
  refine w_condF rfl ?_
  refine w_seq ?_
  refine w_reg ?_
  refine wl_mv (.tmp 1) (.int .i64 (at0)) (fun _ => rfl) rfl rfl ?_
  refine wl_bin (fun x y => do eqGuard .lss 3 (.tmp 42) (.const (.int .i64 (0))) x y; binOp .lss 3 x y) (.tmp 42) (.const (.int .i64 (0))) (.int .i64 (at0)) (.int .i64 (0)) (.bool true) (fun _ => rfl) rfl rfl (ltI q4 _ _ _) rfl ?_
  refine wl_mv (.tmp 43) (.bool true) (fun _ => rfl) rfl rfl ?_
  refine wl_skip rfl ?_
  refine wl_skip rfl ?_
  refine wl_skip rfl ?_
  refine wl_skip rfl ?_
  refine wl_pick (.tmp 44) (.const (.bool true)) (.tmp 48) true (.bool true) (fun _ => rfl) rfl rfl rfl ?_
  refine wl_mv (.tmp 49) (.bool true) (fun _ => rfl) rfl rfl ?_
  refine w_nil ?_
  refine xn_then ?_
  refine w_condT rfl ?_
  refine w_seq ?_
  refine w_reg ?_
  refine wl_mv (.const (.int .i64 (1))) (.int .i64 (1)) (fun _ => rfl) rfl rfl ?_
  refine w_nil ?_
  refine xn_then ?_
  refine w_ret ?_
  refine xr_blk ?_
  refine xr_then ?_
  exact w_ret1 _ (.int .i64 (1)) rfl rfl ⟨rfl, M⟩
theorem insert_f {tr : T} {at0 id : Int} {p : Option Addr} {c : Nat} {vs : List V10} (h : FT D w t mb tr lk) (hi : -9223372036854775808 ≤ id ∧ id ≤ 9223372036854775807) (q7 : decide (vs.length = mb.sc.length) = true) (q0 : decide (id < 1) = false) (q1 : decide (9007199254740992 < id) = false) (q2 : (adr tr.kv id).isSome = false) (q3 : decide (1024 ≤ (tr.kv.length : Int)) = false) (q4 : decide (at0 < 0) = false) (q5 : decide ((tr.kv.length : Int) < at0) = true) : Calls Try.prog 9 #[pt t 0, .int .i64 at0, .int .i64 id, .slice p vs.length c] w fun e w' => e = .returned (.int .i64 1) ∧ Mo w w' := by
  have hw : (Lit.int .i64 id).wf = true := WalkArith.wf_i64 ⟨hi.1, hi.2⟩
  obtain ⟨R, root, hS, hAp, hC, hR, hn⟩ := h.ts
  have hM := h.om
  obtain ⟨p9, cap9, hsl, _⟩ := hS.sc
  rw [List.length_map] at hsl
  refine w_enter 57 Try.func9 Try.ntmps9 rfl rfl ?_
  have M : Mo w w := Mo.refl _
  refine w_seq ?_
  refine w_reg ?_
  refine wl_mv (.const (.int .i64 (0))) (.int .i64 (0)) (fun _ => rfl) rfl rfl ?_
  refine w_nil ?_
  refine xn_then ?_
  refine w_seq ?_
  refine w_block ?_
  refine w_seq ?_
  refine w_reg ?_
  refine wl_mv (.tmp 0) (pt t 0) (fun _ => rfl) rfl rfl ?_
  refine wl_call 30 [(.tmp 10)] _ [pt t 0] (.bool true) rfl rfl (fun _ _ => by kernel_rfl) (made_n hS) rfl ?_
  intro w1 hq
  replace hS := hS.mo hq
  replace hM := hM.mo hq
  replace M := M.trans hq
  clear hq
  refine wl_un (fun v => Op.unary .not v) (.tmp 11) (.bool true) (.bool false) (fun _ => rfl) rfl (by kernel_rfl) rfl ?_
  refine wl_mv (.tmp 12) (.bool false) (fun _ => rfl) rfl rfl ?_
  refine w_nil ?_
  refine xn_then ?_
  refine w_condF rfl ?_
  refine w_seq ?_
  refine w_reg ?_
  refine wl_mv (.tmp 3) (.slice p vs.length c) (fun _ => rfl) rfl rfl ?_
  refine wl_val (.int .i64 ((vs.length : Nat) : Int)) (len29 _ _ _ _ _ (by exact rfl) _ _ _ _ _ _) rfl ?_
  refine wl_mv (.tmp 0) (pt t 0) (fun _ => rfl) rfl rfl ?_
  refine wl_nc (.tmp 16) t 0 rfl rfl rfl ?_
  refine wl_un (fun v => Instr.fieldAt 68 v 0) (.tmp 17) (pt t 0) (pt t 0) (fun _ => rfl) rfl (by kernel_rfl) rfl ?_
  refine wl_load 22 (.tmp 18) (pt t 0) (mb.h) rfl rfl (run_one hS.tr 22 0 rfl Try.underlying22 rfl) rfl ?_
  refine wl_val (.int .i64 ((mb.sc.length : Nat) : Int)) (len22 _ _ _ _ _ (Eq.trans (b := mb.h) (by exact rfl) hsl) _ _ _ _ _ _) rfl ?_
  refine wl_bin (fun x y => do eqGuard .neq 3 (.tmp 15) (.tmp 20) x y; binOp .neq 3 x y) (.tmp 15) (.tmp 20) (.int .i64 ((vs.length : Nat) : Int)) (.int .i64 ((mb.sc.length : Nat) : Int)) (.bool false) (fun _ => rfl) rfl rfl (neN q7 _ _ _) rfl ?_
  refine wl_mv (.tmp 21) (.bool false) (fun _ => rfl) rfl rfl ?_
  refine w_nil ?_
  refine xn_then ?_
  refine w_condF rfl ?_
  refine w_seq ?_
  refine w_reg ?_
  refine wl_mv (.tmp 2) (.int .i64 (id)) (fun _ => rfl) rfl rfl ?_
  refine wl_bin (fun x y => do eqGuard .lss 2 (.tmp 23) (.const (.int .i64 (1))) x y; binOp .lss 2 x y) (.tmp 23) (.const (.int .i64 (1))) (.int .i64 (id)) (.int .i64 (1)) (.bool false) (fun _ => rfl) rfl rfl (ltL q0 _ _ _) rfl ?_
  refine wl_mv (.tmp 24) (.bool false) (fun _ => rfl) rfl rfl ?_
  refine wl_mv (.tmp 2) (.int .i64 (id)) (fun _ => rfl) rfl rfl ?_
  refine wl_bin (fun x y => do eqGuard .gtr 2 (.tmp 26) (.const (.int .i64 (9007199254740992))) x y; binOp .gtr 2 x y) (.tmp 26) (.const (.int .i64 (9007199254740992))) (.int .i64 (id)) (.int .i64 (9007199254740992)) (.bool false) (fun _ => rfl) rfl rfl (gtL q1 _ _ _) rfl ?_
  refine wl_pick (.tmp 25) (.const (.bool true)) (.tmp 27) false (.bool false) (fun _ => rfl) rfl rfl rfl ?_
  refine wl_mv (.tmp 28) (.bool false) (fun _ => rfl) rfl rfl ?_
  refine w_nil ?_
  refine xn_then ?_
  refine w_condF rfl ?_
  refine w_seq ?_
  refine w_reg ?_
  refine wl_mv (.tmp 0) (pt t 0) (fun _ => rfl) rfl rfl ?_
  refine wl_nc (.tmp 30) t 0 rfl rfl rfl ?_
  refine wl_un (fun v => Instr.fieldAt 68 v 2) (.tmp 31) (pt t 0) (pt t 2) (fun _ => rfl) rfl (by kernel_rfl) rfl ?_
  refine wl_load 66 (.tmp 32) (pt t 2) (.map (some mb.m)) rfl rfl (run_one hS.tr 66 2 rfl Try.underlying66 rfl) rfl ?_
  refine wl_mv (.tmp 2) (.int .i64 (id)) (fun _ => rfl) rfl rfl ?_
  refine wl_bin (fun x y => Instr.lookup 66 x y false) (.tmp 33) (.tmp 34) (.map (some mb.m)) (.int .i64 (id)) (pp (adr tr.kv id)) (fun _ => rfl) rfl rfl (hM.look hw) rfl ?_
  refine wl_bin (fun x y => do eqGuard .neq 65 (.tmp 35) (.const (.pointer none)) x y; binOp .neq 65 x y) (.tmp 35) (.const (.pointer none)) (pp (adr tr.kv id)) (pp none) (.bool false) (fun _ => rfl) rfl rfl (nePb q2 _ _ _) rfl ?_
  refine wl_mv (.tmp 36) (.bool false) (fun _ => rfl) rfl rfl ?_
  refine w_nil ?_
  refine xn_then ?_
  refine w_condF rfl ?_
  refine w_seq ?_
  refine w_reg ?_
  refine wl_mv (.tmp 0) (pt t 0) (fun _ => rfl) rfl rfl ?_
  refine wl_call 10 [(.tmp 38)] _ [pt t 0] (.int .i64 ((tr.kv.length : Int))) rfl rfl (fun _ _ => by kernel_rfl) (len_n hS hM) rfl ?_
  intro w2 hq
  replace hS := hS.mo hq
  replace hM := hM.mo hq
  replace M := M.trans hq
  clear hq
  refine wl_bin (fun x y => do eqGuard .geq 3 (.tmp 39) (.const (.int .i64 (1024))) x y; binOp .geq 3 x y) (.tmp 39) (.const (.int .i64 (1024))) (.int .i64 ((tr.kv.length : Int))) (.int .i64 (1024)) (.bool false) (fun _ => rfl) rfl rfl (geI q3 _ _ _) rfl ?_
  refine wl_mv (.tmp 40) (.bool false) (fun _ => rfl) rfl rfl ?_
  refine w_nil ?_
  refine xn_then ?_
  refine w_condF rfl ?_
  refine w_seq ?_
  refine w_reg ?_
  refine wl_mv (.tmp 1) (.int .i64 (at0)) (fun _ => rfl) rfl rfl ?_
  refine wl_bin (fun x y => do eqGuard .lss 3 (.tmp 42) (.const (.int .i64 (0))) x y; binOp .lss 3 x y) (.tmp 42) (.const (.int .i64 (0))) (.int .i64 (at0)) (.int .i64 (0)) (.bool false) (fun _ => rfl) rfl rfl (ltI q4 _ _ _) rfl ?_
  refine wl_mv (.tmp 43) (.bool false) (fun _ => rfl) rfl rfl ?_
  refine wl_mv (.tmp 1) (.int .i64 (at0)) (fun _ => rfl) rfl rfl ?_
  refine wl_mv (.tmp 0) (pt t 0) (fun _ => rfl) rfl rfl ?_
  refine wl_call 10 [(.tmp 46)] _ [pt t 0] (.int .i64 ((tr.kv.length : Int))) rfl rfl (fun _ _ => by kernel_rfl) (len_n hS hM) rfl ?_
  intro w3 hq
  replace hS := hS.mo hq
  replace hM := hM.mo hq
  replace M := M.trans hq
  clear hq
  refine wl_bin (fun x y => do eqGuard .gtr 3 (.tmp 45) (.tmp 47) x y; binOp .gtr 3 x y) (.tmp 45) (.tmp 47) (.int .i64 (at0)) (.int .i64 ((tr.kv.length : Int))) (.bool true) (fun _ => rfl) rfl rfl (gtI q5 _ _ _) rfl ?_
  refine wl_pick (.tmp 44) (.const (.bool true)) (.tmp 48) false (.bool true) (fun _ => rfl) rfl rfl rfl ?_
  refine wl_mv (.tmp 49) (.bool true) (fun _ => rfl) rfl rfl ?_
  refine w_nil ?_
  refine xn_then ?_
  refine w_condT rfl ?_
  refine w_seq ?_
  refine w_reg ?_
  refine wl_mv (.const (.int .i64 (1))) (.int .i64 (1)) (fun _ => rfl) rfl rfl ?_
  refine w_nil ?_
  refine xn_then ?_
  refine w_ret ?_
  refine xr_blk ?_
  refine xr_then ?_
  exact w_ret1 _ (.int .i64 (1)) rfl rfl ⟨rfl, M⟩
theorem insert_ok {tr : T} {at0 id : Int} {p : Option Addr} {c : Nat} {vs : List V10} (h : FT D w t mb tr lk) (hi : -9223372036854775808 ≤ id ∧ id ≤ 9223372036854775807) (q7 : decide (vs.length = mb.sc.length) = true) (q0 : decide (id < 1) = false) (q1 : decide (9007199254740992 < id) = false) (q2 : (adr tr.kv id).isSome = false) (q3 : decide (1024 ≤ (tr.kv.length : Int)) = false) (q4 : decide (at0 < 0) = false) (q5 : decide ((tr.kv.length : Int) < at0) = false) (hlk : lk ≤ 3000000000000000000) (hSVm : ∀ w', Mk (fun j => D j ∨ j = mb.m) w w' → SVv w' p vs) (hvo : ∀ x ∈ vs, x.n.ok) : Calls Try.prog 9 #[pt t 0, .int .i64 at0, .int .i64 id, .slice p vs.length c] w fun e w' => ∃ y kn tr' lk' D', e = .returned (.int .i64 0) ∧ Ins tr at0 ⟨id, y, vs⟩ kn tr' ∧ FT D' w' t mb tr' lk' ∧ w.heap.size ≤ kn ∧ lk < lk' ∧ lk' ≤ lk + 10 * tr.ht + 8 ∧ Mk (fun j => D j ∨ j = mb.m) w w' ∧ ∀ j, D' j → D j ∨ w.heap.size ≤ j := by
  have hw : (Lit.int .i64 id).wf = true := WalkArith.wf_i64 ⟨hi.1, hi.2⟩
  obtain ⟨R, root, hS, hAp, hC, hR, hn⟩ := h.ts
  have hM := h.om
  obtain ⟨p9, cap9, hsl, _⟩ := hS.sc
  rw [List.length_map] at hsl
  have hkl := tr.kv_len
  have hnc := hS.nc
  have hq7 := of_decide_eq_true q7
  have hid : id ∉ tr.ids.map (·.i) := fun m => by rw [← T.kv_ids] at m; rw [adr_is.2 m] at q2; cases q2
  refine w_enter 57 Try.func9 Try.ntmps9 rfl rfl ?_
  have M : Mk (fun j => D j ∨ j = mb.m) w w := Mk.refl _ _
  refine w_seq ?_
  refine w_reg ?_
  refine wl_mv (.const (.int .i64 (0))) (.int .i64 (0)) (fun _ => rfl) rfl rfl ?_
  refine w_nil ?_
  refine xn_then ?_
  refine w_seq ?_
  refine w_block ?_
  refine w_seq ?_
  refine w_reg ?_
  refine wl_mv (.tmp 0) (pt t 0) (fun _ => rfl) rfl rfl ?_
  refine wl_call 30 [(.tmp 10)] _ [pt t 0] (.bool true) rfl rfl (fun _ _ => by kernel_rfl) (made_n hS) rfl ?_
  intro w1 hq
  replace hS := hS.mo hq
  replace hM := hM.mo hq
  replace M := M.trans hq
  clear hq
  refine wl_un (fun v => Op.unary .not v) (.tmp 11) (.bool true) (.bool false) (fun _ => rfl) rfl (by kernel_rfl) rfl ?_
  refine wl_mv (.tmp 12) (.bool false) (fun _ => rfl) rfl rfl ?_
  refine w_nil ?_
  refine xn_then ?_
  refine w_condF rfl ?_
  refine w_seq ?_
  refine w_reg ?_
  refine wl_mv (.tmp 3) (.slice p vs.length c) (fun _ => rfl) rfl rfl ?_
  refine wl_val (.int .i64 ((vs.length : Nat) : Int)) (len29 _ _ _ _ _ (by exact rfl) _ _ _ _ _ _) rfl ?_
  refine wl_mv (.tmp 0) (pt t 0) (fun _ => rfl) rfl rfl ?_
  refine wl_nc (.tmp 16) t 0 rfl rfl rfl ?_
  refine wl_un (fun v => Instr.fieldAt 68 v 0) (.tmp 17) (pt t 0) (pt t 0) (fun _ => rfl) rfl (by kernel_rfl) rfl ?_
  refine wl_load 22 (.tmp 18) (pt t 0) (mb.h) rfl rfl (run_one hS.tr 22 0 rfl Try.underlying22 rfl) rfl ?_
  refine wl_val (.int .i64 ((mb.sc.length : Nat) : Int)) (len22 _ _ _ _ _ (Eq.trans (b := mb.h) (by exact rfl) hsl) _ _ _ _ _ _) rfl ?_
  refine wl_bin (fun x y => do eqGuard .neq 3 (.tmp 15) (.tmp 20) x y; binOp .neq 3 x y) (.tmp 15) (.tmp 20) (.int .i64 ((vs.length : Nat) : Int)) (.int .i64 ((mb.sc.length : Nat) : Int)) (.bool false) (fun _ => rfl) rfl rfl (neN q7 _ _ _) rfl ?_
  refine wl_mv (.tmp 21) (.bool false) (fun _ => rfl) rfl rfl ?_
  refine w_nil ?_
  refine xn_then ?_
  refine w_condF rfl ?_
  refine w_seq ?_
  refine w_reg ?_
  refine wl_mv (.tmp 2) (.int .i64 (id)) (fun _ => rfl) rfl rfl ?_
  refine wl_bin (fun x y => do eqGuard .lss 2 (.tmp 23) (.const (.int .i64 (1))) x y; binOp .lss 2 x y) (.tmp 23) (.const (.int .i64 (1))) (.int .i64 (id)) (.int .i64 (1)) (.bool false) (fun _ => rfl) rfl rfl (ltL q0 _ _ _) rfl ?_
  refine wl_mv (.tmp 24) (.bool false) (fun _ => rfl) rfl rfl ?_
  refine wl_mv (.tmp 2) (.int .i64 (id)) (fun _ => rfl) rfl rfl ?_
  refine wl_bin (fun x y => do eqGuard .gtr 2 (.tmp 26) (.const (.int .i64 (9007199254740992))) x y; binOp .gtr 2 x y) (.tmp 26) (.const (.int .i64 (9007199254740992))) (.int .i64 (id)) (.int .i64 (9007199254740992)) (.bool false) (fun _ => rfl) rfl rfl (gtL q1 _ _ _) rfl ?_
  refine wl_pick (.tmp 25) (.const (.bool true)) (.tmp 27) false (.bool false) (fun _ => rfl) rfl rfl rfl ?_
  refine wl_mv (.tmp 28) (.bool false) (fun _ => rfl) rfl rfl ?_
  refine w_nil ?_
  refine xn_then ?_
  refine w_condF rfl ?_
  refine w_seq ?_
  refine w_reg ?_
  refine wl_mv (.tmp 0) (pt t 0) (fun _ => rfl) rfl rfl ?_
  refine wl_nc (.tmp 30) t 0 rfl rfl rfl ?_
  refine wl_un (fun v => Instr.fieldAt 68 v 2) (.tmp 31) (pt t 0) (pt t 2) (fun _ => rfl) rfl (by kernel_rfl) rfl ?_
  refine wl_load 66 (.tmp 32) (pt t 2) (.map (some mb.m)) rfl rfl (run_one hS.tr 66 2 rfl Try.underlying66 rfl) rfl ?_
  refine wl_mv (.tmp 2) (.int .i64 (id)) (fun _ => rfl) rfl rfl ?_
  refine wl_bin (fun x y => Instr.lookup 66 x y false) (.tmp 33) (.tmp 34) (.map (some mb.m)) (.int .i64 (id)) (pp (adr tr.kv id)) (fun _ => rfl) rfl rfl (hM.look hw) rfl ?_
  refine wl_bin (fun x y => do eqGuard .neq 65 (.tmp 35) (.const (.pointer none)) x y; binOp .neq 65 x y) (.tmp 35) (.const (.pointer none)) (pp (adr tr.kv id)) (pp none) (.bool false) (fun _ => rfl) rfl rfl (nePb q2 _ _ _) rfl ?_
  refine wl_mv (.tmp 36) (.bool false) (fun _ => rfl) rfl rfl ?_
  refine w_nil ?_
  refine xn_then ?_
  refine w_condF rfl ?_
  refine w_seq ?_
  refine w_reg ?_
  refine wl_mv (.tmp 0) (pt t 0) (fun _ => rfl) rfl rfl ?_
  refine wl_call 10 [(.tmp 38)] _ [pt t 0] (.int .i64 ((tr.kv.length : Int))) rfl rfl (fun _ _ => by kernel_rfl) (len_n hS hM) rfl ?_
  intro w2 hq
  replace hS := hS.mo hq
  replace hM := hM.mo hq
  replace M := M.trans hq
  clear hq
  refine wl_bin (fun x y => do eqGuard .geq 3 (.tmp 39) (.const (.int .i64 (1024))) x y; binOp .geq 3 x y) (.tmp 39) (.const (.int .i64 (1024))) (.int .i64 ((tr.kv.length : Int))) (.int .i64 (1024)) (.bool false) (fun _ => rfl) rfl rfl (geI q3 _ _ _) rfl ?_
  refine wl_mv (.tmp 40) (.bool false) (fun _ => rfl) rfl rfl ?_
  refine w_nil ?_
  refine xn_then ?_
  refine w_condF rfl ?_
  refine w_seq ?_
  refine w_reg ?_
  refine wl_mv (.tmp 1) (.int .i64 (at0)) (fun _ => rfl) rfl rfl ?_
  refine wl_bin (fun x y => do eqGuard .lss 3 (.tmp 42) (.const (.int .i64 (0))) x y; binOp .lss 3 x y) (.tmp 42) (.const (.int .i64 (0))) (.int .i64 (at0)) (.int .i64 (0)) (.bool false) (fun _ => rfl) rfl rfl (ltI q4 _ _ _) rfl ?_
  refine wl_mv (.tmp 43) (.bool false) (fun _ => rfl) rfl rfl ?_
  refine wl_mv (.tmp 1) (.int .i64 (at0)) (fun _ => rfl) rfl rfl ?_
  refine wl_mv (.tmp 0) (pt t 0) (fun _ => rfl) rfl rfl ?_
  refine wl_call 10 [(.tmp 46)] _ [pt t 0] (.int .i64 ((tr.kv.length : Int))) rfl rfl (fun _ _ => by kernel_rfl) (len_n hS hM) rfl ?_
  intro w3 hq
  replace hS := hS.mo hq
  replace hM := hM.mo hq
  replace M := M.trans hq
  clear hq
  refine wl_bin (fun x y => do eqGuard .gtr 3 (.tmp 45) (.tmp 47) x y; binOp .gtr 3 x y) (.tmp 45) (.tmp 47) (.int .i64 (at0)) (.int .i64 ((tr.kv.length : Int))) (.bool false) (fun _ => rfl) rfl rfl (gtI q5 _ _ _) rfl ?_
  refine wl_pick (.tmp 44) (.const (.bool true)) (.tmp 48) false (.bool false) (fun _ => rfl) rfl rfl rfl ?_
  refine wl_mv (.tmp 49) (.bool false) (fun _ => rfl) rfl rfl ?_
  refine w_nil ?_
  refine xn_then ?_
  refine w_condF rfl ?_
  refine w_skip ?_
  refine xn_blk ?_
  refine xn_then ?_
  refine w_seq ?_
  refine w_reg ?_
  refine wl_mv (.tmp 0) (pt t 0) (fun _ => rfl) rfl rfl ?_
  refine wl_mv (.tmp 1) (.int .i64 (at0)) (fun _ => rfl) rfl rfl ?_
  refine wl_mv (.tmp 2) (.int .i64 (id)) (fun _ => rfl) rfl rfl ?_
  refine wl_mv (.tmp 3) (.slice p vs.length c) (fun _ => rfl) rfl rfl ?_
  have hMs := M.size
  have hDl : ∀ j, D j → j < w3.heap.size := fun j e => hS.lt e
  have hml := hM.lt
  have hsl2 : ∀ b, ob mb.h = some b → b < w3.heap.size := fun b e => hS.sc.lt e
  have hSV9 := hSVm _ M
  refine wl_callx 22 [(.tmp 53)] _ [.slice p vs.length c] rfl rfl (fun _ _ => by kernel_rfl) (clv_vs hSV9 (by omega)) rfl ?_
  rintro _ w4 ⟨p', c', rfl, hRw, hob, hq⟩
  refine ⟨_, rfl, ?_⟩
  replace hS := hS.mo hq
  replace hM := hM.mo hq
  replace M := M.trans hq
  clear hq
  refine wl_build 83 [(0, (.tmp 52)), (1, (.tmp 54))] [(0, .int .i64 id), (1, .slice p' vs.length c')] (.agg #[.int .i64 id, .slice p' vs.length c']) rfl rfl (by kernel_rfl) rfl ?_
  have hFn : FT D _ t mb tr lk := ⟨⟨R, root, ⟨hS, hAp, hC, hR, hn⟩⟩, hM, h.ok, h.nd, h.rg, h.le, h.l0, h.hm⟩
  refine wl_callg 31 [(.tmp 50), (.tmp 51), (.tmp 55)] _ [pt t 0, .int .i64 (at0), .agg #[.int .i64 id, .slice p' vs.length c']] (.tuple #[]) rfl rfl (fun _ _ => by kernel_rfl) (put_f hFn hid (by have := of_decide_eq_false q0; omega) (by have := of_decide_eq_false q1; omega) (by have := of_decide_eq_false q3; omega) (by have := of_decide_eq_false q4; omega) (by have := of_decide_eq_false q5; omega) hlk ⟨hRw, of_decide_eq_true q7, hvo⟩ (fun b hb => ⟨fun e => by have := hDl b e; have := hob b hb; omega, fun e => by have := hob b hb; omega, fun e => by have := hsl2 b e; have := hob b hb; omega⟩)) rfl ?_
  intro w5 hF
  obtain ⟨kn, tr2, lk2, D2, hI, hF2, hkn, hk1, hk2, hM2, hD2⟩ := hF
  have hMs2 := M.size
  replace hkn := Nat.le_trans M.size hkn
  replace M := M.tr hM2 (fun j hj e => by rcases e with e | e | e; exact Or.inl e; exact Or.inr e; have := hob j e; omega)
  refine w_nil ?_
  refine xn_then ?_
  refine w_seq ?_
  refine w_reg ?_
  refine wl_mv (.const (.int .i64 (0))) (.int .i64 (0)) (fun _ => rfl) rfl rfl ?_
  refine w_nil ?_
  refine xn_then ?_
  refine w_ret ?_
  exact w_ret1 _ (.int .i64 (0)) rfl rfl ⟨_, kn, tr2, lk2, D2, rfl, hI, hF2, hkn, hk1, hk2, M, fun j e => by rcases hD2 j e with e | e | e; exact Or.inl e; exact Or.inr (by omega); exact Or.inr (by have := hob j e; omega)⟩
end
end G
end Go.Proofs.Ythfemlhmnjfjiaa
/-
  The tree's has, Sum.
-/
namespace Go.Proofs.Ythfemlhmnjfjiaa
open Go.RowKit
namespace G
section
variable {D : Nat → Prop} {w : World} {t : Nat} {mb : Hd} {R : Mp} {root : Option Nat} {lk : Int}
theorem has_n {w : World} (hS : HS D w t mb R root lk) (cn : Int) : Calls Try.prog 32 #[pt t 0, .int .i64 cn] w fun e w' => e = .returned (.bool (decide (0 ≤ cn) && decide (cn < (mb.sc.length : Int)))) ∧ Mo w w' := by
  obtain ⟨p9, cap9, hsl, _⟩ := hS.sc
  rw [List.length_map] at hsl
  refine w_enter 16 Try.func32 Try.ntmps32 rfl rfl ?_
  have M : Mo w w := Mo.refl _
  refine w_seq ?_
  refine w_reg ?_
  refine wl_mv (.const (.bool false)) (.bool false) (fun _ => rfl) rfl rfl ?_
  refine w_nil ?_
  refine xn_then ?_
  refine w_seq ?_
  cases hf0 : decide (0 ≤ cn) with
  | true =>
    have hf0p := of_decide_eq_true hf0
    cases hf1 : decide (cn < (mb.sc.length : Int)) with
    | true =>
      have hf1p := of_decide_eq_true hf1
      refine w_reg ?_
      refine wl_mv (.tmp 1) (.int .i64 (cn)) (fun _ => rfl) rfl rfl ?_
      refine wl_bin (fun x y => do eqGuard .geq 3 (.tmp 5) (.const (.int .i64 (0))) x y; binOp .geq 3 x y) (.tmp 5) (.const (.int .i64 (0))) (.int .i64 (cn)) (.int .i64 (0)) (.bool true) (fun _ => rfl) rfl rfl (geI hf0 _ _ _) rfl ?_
      refine wl_mv (.tmp 6) (.bool true) (fun _ => rfl) rfl rfl ?_
      refine wl_mv (.tmp 1) (.int .i64 (cn)) (fun _ => rfl) rfl rfl ?_
      refine wl_mv (.tmp 0) (pt t 0) (fun _ => rfl) rfl rfl ?_
      refine wl_nc (.tmp 9) t 0 rfl rfl rfl ?_
      refine wl_un (fun v => Instr.fieldAt 68 v 0) (.tmp 10) (pt t 0) (pt t 0) (fun _ => rfl) rfl (by kernel_rfl) rfl ?_
      refine wl_load 22 (.tmp 11) (pt t 0) (mb.h) rfl rfl (run_one hS.tr 22 0 rfl Try.underlying22 rfl) rfl ?_
      refine wl_val (.int .i64 ((mb.sc.length : Nat) : Int)) (len22 _ _ _ _ _ (Eq.trans (b := mb.h) (by exact rfl) hsl) _ _ _ _ _ _) rfl ?_
      refine wl_bin (fun x y => do eqGuard .lss 3 (.tmp 8) (.tmp 13) x y; binOp .lss 3 x y) (.tmp 8) (.tmp 13) (.int .i64 (cn)) (.int .i64 ((mb.sc.length : Nat) : Int)) (.bool true) (fun _ => rfl) rfl rfl (ltI hf1 _ _ _) rfl ?_
      refine wl_pick (.tmp 7) (.tmp 14) (.const (.bool false)) true (.bool true) (fun _ => rfl) rfl rfl rfl ?_
      refine wl_mv (.tmp 15) (.bool true) (fun _ => rfl) rfl rfl ?_
      refine w_nil ?_
      refine xn_then ?_
      refine w_ret ?_
      exact w_ret1 _ (.bool true) rfl rfl ⟨rfl, M⟩
    | false =>
      have hf1p := of_decide_eq_false hf1
      refine w_reg ?_
      refine wl_mv (.tmp 1) (.int .i64 (cn)) (fun _ => rfl) rfl rfl ?_
      refine wl_bin (fun x y => do eqGuard .geq 3 (.tmp 5) (.const (.int .i64 (0))) x y; binOp .geq 3 x y) (.tmp 5) (.const (.int .i64 (0))) (.int .i64 (cn)) (.int .i64 (0)) (.bool true) (fun _ => rfl) rfl rfl (geI hf0 _ _ _) rfl ?_
      refine wl_mv (.tmp 6) (.bool true) (fun _ => rfl) rfl rfl ?_
      refine wl_mv (.tmp 1) (.int .i64 (cn)) (fun _ => rfl) rfl rfl ?_
      refine wl_mv (.tmp 0) (pt t 0) (fun _ => rfl) rfl rfl ?_
      refine wl_nc (.tmp 9) t 0 rfl rfl rfl ?_
      refine wl_un (fun v => Instr.fieldAt 68 v 0) (.tmp 10) (pt t 0) (pt t 0) (fun _ => rfl) rfl (by kernel_rfl) rfl ?_
      refine wl_load 22 (.tmp 11) (pt t 0) (mb.h) rfl rfl (run_one hS.tr 22 0 rfl Try.underlying22 rfl) rfl ?_
      refine wl_val (.int .i64 ((mb.sc.length : Nat) : Int)) (len22 _ _ _ _ _ (Eq.trans (b := mb.h) (by exact rfl) hsl) _ _ _ _ _ _) rfl ?_
      refine wl_bin (fun x y => do eqGuard .lss 3 (.tmp 8) (.tmp 13) x y; binOp .lss 3 x y) (.tmp 8) (.tmp 13) (.int .i64 (cn)) (.int .i64 ((mb.sc.length : Nat) : Int)) (.bool false) (fun _ => rfl) rfl rfl (ltI hf1 _ _ _) rfl ?_
      refine wl_pick (.tmp 7) (.tmp 14) (.const (.bool false)) true (.bool false) (fun _ => rfl) rfl rfl rfl ?_
      refine wl_mv (.tmp 15) (.bool false) (fun _ => rfl) rfl rfl ?_
      refine w_nil ?_
      refine xn_then ?_
      refine w_ret ?_
      exact w_ret1 _ (.bool false) rfl rfl ⟨rfl, M⟩
  | false =>
    have hf0p := of_decide_eq_false hf0
    refine w_reg ?_
    refine wl_mv (.tmp 1) (.int .i64 (cn)) (fun _ => rfl) rfl rfl ?_
    refine wl_bin (fun x y => do eqGuard .geq 3 (.tmp 5) (.const (.int .i64 (0))) x y; binOp .geq 3 x y) (.tmp 5) (.const (.int .i64 (0))) (.int .i64 (cn)) (.int .i64 (0)) (.bool false) (fun _ => rfl) rfl rfl (geI hf0 _ _ _) rfl ?_
    refine wl_mv (.tmp 6) (.bool false) (fun _ => rfl) rfl rfl ?_
    refine wl_skip rfl ?_
    refine wl_skip rfl ?_
    refine wl_skip rfl ?_
    refine wl_skip rfl ?_
    refine wl_skip rfl ?_
    refine wl_skip rfl ?_
    refine wl_skip rfl ?_
    refine wl_pick (.tmp 7) (.tmp 14) (.const (.bool false)) false (.bool false) (fun _ => rfl) rfl rfl rfl ?_
    refine wl_mv (.tmp 15) (.bool false) (fun _ => rfl) rfl rfl ?_
    refine w_nil ?_
    refine xn_then ?_
    refine w_ret ?_
    exact w_ret1 _ (.bool false) rfl rfl ⟨rfl, M⟩
theorem sumc_a {tr : T} {cn : Int} (h : FT D w t mb tr lk) (qc : (decide (0 ≤ cn) && decide (cn < (mb.sc.length : Int))) = false) : Calls Try.prog 12 #[pt t 0, .int .i64 cn] w fun e w' => e = .returned (.tuple #[smv sm0, .int .i64 1]) ∧ Mo w w' := by
  obtain ⟨R, root, hS, hAp, hC, hR, hn⟩ := h.ts
  have hM := h.om
  have hDlt : ∀ j, D j → j < w.heap.size := fun j e => hS.lt e
  have hslt : ∀ b, ob mb.h = some b → b < w.heap.size := fun b e => hS.sc.lt e
  have hmlt := hM.lt
  refine w_enter 28 Try.func12 Try.ntmps12 rfl rfl ?_
  have M : Mk (fun _ => False) w w := Mk.refl _ _
  refine w_seq ?_
  refine w_reg ?_
  refine wl_alloc 42 #[.int .i64 0, .int .i64 0, .int .i64 0, .int .i64 0, .int .i64 0, .int .u64 0, .int .u64 0, .int .u64 0, .int .u64 0, .int .u64 0, .bool false, .bool false, .int .u64 0, .int .u64 0, .int .u64 0, .int .u64 0, .int .i64 0, .bool false, .int .u64 0, .int .u64 0, .int .u64 0, .int .u64 0, .int .i64 0] rfl (fun _ => by kernel_rfl) rfl ?_
  intro k1 w1 hk hz hq Q1
  have hMs := M.size
  have N_k1 : w.heap.size ≤ k1 := by omega
  have nd_k1 : ¬ D k1 := fun e => by have := hDlt _ e; omega
  have nm_k1 : k1 ≠ mb.m := by omega
  have ns_k1 : ∀ b, ob mb.h = some b → b ≠ k1 := fun b hb => by have := hslt b hb; omega
  replace hS := hS.mo hq
  replace hM := hM.mo hq
  replace M := M.trans hq
  clear hk hz hq hMs
  refine wl_mv (.const (.int .i64 (0))) (.int .i64 (0)) (fun _ => rfl) rfl rfl ?_
  refine w_nil ?_
  refine xn_then ?_
  refine w_seq ?_
  refine w_seq ?_
  refine w_reg ?_
  refine wl_mv (.tmp 0) (pt t 0) (fun _ => rfl) rfl rfl ?_
  refine wl_call 30 [(.tmp 6)] _ [pt t 0] (.bool true) rfl rfl (fun _ _ => by kernel_rfl) (made_n hS) rfl ?_
  intro w2 hq
  replace Q1 := Q1.mo hq
  replace hS := hS.mo hq
  replace hM := hM.mo hq
  replace M := M.trans hq
  clear hq
  refine wl_un (fun v => Op.unary .not v) (.tmp 7) (.bool true) (.bool false) (fun _ => rfl) rfl (by kernel_rfl) rfl ?_
  refine w_nil ?_
  refine xn_then ?_
  refine w_condF rfl ?_
  refine w_skip ?_
  refine xn_then ?_
  refine w_seq ?_
  refine w_seq ?_
  refine w_reg ?_
  refine wl_mv (.tmp 0) (pt t 0) (fun _ => rfl) rfl rfl ?_
  refine wl_mv (.tmp 1) (.int .i64 (cn)) (fun _ => rfl) rfl rfl ?_
  refine wl_call 32 [(.tmp 10), (.tmp 11)] _ [pt t 0, .int .i64 (cn)] (.bool false) rfl rfl (fun _ _ => by kernel_rfl) (by have := has_n hS cn; rw [qc] at this; exact this) rfl ?_
  intro w3 hq
  replace Q1 := Q1.mo hq
  replace hS := hS.mo hq
  replace hM := hM.mo hq
  replace M := M.trans hq
  clear hq
  refine wl_un (fun v => Op.unary .not v) (.tmp 12) (.bool false) (.bool true) (fun _ => rfl) rfl (by kernel_rfl) rfl ?_
  refine w_nil ?_
  refine xn_then ?_
  refine w_condT rfl ?_
  refine w_seq ?_
  refine w_reg ?_
  refine wl_build 42 [] [] (.agg #[.int .i64 0, .int .i64 0, .int .i64 0, .int .i64 0, .int .i64 0, .int .u64 0, .int .u64 0, .int .u64 0, .int .u64 0, .int .u64 0, .bool false, .bool false, .int .u64 0, .int .u64 0, .int .u64 0, .int .u64 0, .int .i64 0, .bool false, .int .u64 0, .int .u64 0, .int .u64 0, .int .u64 0, .int .i64 0]) rfl rfl (by kernel_rfl) rfl ?_
  refine wl_stx2 42 (.tmp 4) (.tmp 14) k1 0 #[.int .i64 0, .int .i64 0, .int .i64 0, .int .i64 0, .int .i64 0, .int .u64 0, .int .u64 0, .int .u64 0, .int .u64 0, .int .u64 0, .bool false, .bool false, .int .u64 0, .int .u64 0, .int .u64 0, .int .u64 0, .int .i64 0, .bool false, .int .u64 0, .int .u64 0, .int .u64 0, .int .u64 0, .int .i64 0] [.int .i64 0, .int .i64 0, .int .i64 0, .int .i64 0, .int .i64 0, .int .u64 0, .int .u64 0, .int .u64 0, .int .u64 0, .int .u64 0, .bool false, .bool false, .int .u64 0, .int .u64 0, .int .u64 0, .int .u64 0, .int .i64 0, .bool false, .int .u64 0, .int .u64 0, .int .u64 0, .int .u64 0, .int .i64 0] [.int .i64 0, .int .i64 0, .int .i64 0, .int .i64 0, .int .i64 0, .int .u64 0, .int .u64 0, .int .u64 0, .int .u64 0, .int .u64 0, .bool false, .bool false, .int .u64 0, .int .u64 0, .int .u64 0, .int .u64 0, .int .i64 0, .bool false, .int .u64 0, .int .u64 0, .int .u64 0, .int .u64 0, .int .i64 0] Q1 rfl rfl rfl rfl rfl zs42 rfl rfl rfl ?_
  intro w4 hT Qn
  replace Q1 := Qn
  have hK := Mk.st1 hT
  replace hM := hM.mk hK (Ne.symm nm_k1)
  replace hS := hS.kept hK (fun j e q => nd_k1 (q ▸ e)) (fun b hb q => ns_k1 b hb q)
  replace M := M.tr hK (fun j hj e => absurd e (by omega))
  clear hT hK Qn
  refine wl_mv (.const (.int .i64 (1))) (.int .i64 (1)) (fun _ => rfl) rfl rfl ?_
  refine w_nil ?_
  refine xn_then ?_
  refine w_ret ?_
  refine xr_then ?_
  exact w_ret2 _ _ (.agg #[.int .i64 0, .int .i64 0, .int .i64 0, .int .i64 0, .int .i64 0, .int .u64 0, .int .u64 0, .int .u64 0, .int .u64 0, .int .u64 0, .bool false, .bool false, .int .u64 0, .int .u64 0, .int .u64 0, .int .u64 0, .int .i64 0, .bool false, .int .u64 0, .int .u64 0, .int .u64 0, .int .u64 0, .int .i64 0]) (.int .i64 (1)) rfl ⟨k1, rfl, (run_row Q1 42 0 23 [.int .i64 0, .int .i64 0, .int .i64 0, .int .i64 0, .int .i64 0, .int .u64 0, .int .u64 0, .int .u64 0, .int .u64 0, .int .u64 0, .bool false, .bool false, .int .u64 0, .int .u64 0, .int .u64 0, .int .u64 0, .int .i64 0, .bool false, .int .u64 0, .int .u64 0, .int .u64 0, .int .u64 0, .int .i64 0] rfl Try.underlying42 rfl zs42)⟩ rfl ⟨rfl, M.mo (Mo.refl _) (fun k e => e.elim)⟩
theorem sumc_ok {tr : T} {cn : Int} (h : FT D w t mb tr lk) (qc : (decide (0 ≤ cn) && decide (cn < (mb.sc.length : Int))) = true) (hlk : lk ≤ 3000000000000000000) : Calls Try.prog 12 #[pt t 0, .int .i64 cn] w fun e w' => ∃ lk', e = .returned (.tuple #[smv (col cn.toNat (mb.sc.getD cn.toNat 0) tr.ids), .int .i64 0]) ∧ FT D w' t mb tr lk' ∧ lk ≤ lk' ∧ lk' ≤ lk + 1 ∧ Mk D w w' := by
  obtain ⟨R, root, hS, hAp, hC, hR, hn⟩ := h.ts
  have hM := h.om
  have hDlt : ∀ j, D j → j < w.heap.size := fun j e => hS.lt e
  have hslt : ∀ b, ob mb.h = some b → b < w.heap.size := fun b e => hS.sc.lt e
  have hmlt := hM.lt
  have hl00 := h.l0
  replace hC : root = tr.p := hC
  subst hC
  have hC : RepC mb.sc R tr.p [] tr.p := rfl
  simp only [Bool.and_eq_true, decide_eq_true_eq] at qc
  have hcn : ((cn.toNat : Nat) : Int) = cn := Int.toNat_of_nonneg qc.1
  have hclt : cn.toNat < mb.sc.length := by omega
  rw [← hcn]
  replace qc : (decide (0 ≤ ((cn.toNat : Nat) : Int)) && decide (((cn.toNat : Nat) : Int) < (mb.sc.length : Int))) = true := by simp only [Bool.and_eq_true, decide_eq_true_eq]; omega
  have hsum : smo R tr.p cn.toNat (col cn.toNat (mb.sc.getD cn.toNat 0) tr.ids) := smo_of hR hclt
  rw [show ((cn.toNat : Nat) : Int).toNat = cn.toNat by omega]
  refine w_enter 28 Try.func12 Try.ntmps12 rfl rfl ?_
  have M : Mk D w w := Mk.refl _ _
  refine w_seq ?_
  refine w_reg ?_
  refine wl_alloc 42 #[.int .i64 0, .int .i64 0, .int .i64 0, .int .i64 0, .int .i64 0, .int .u64 0, .int .u64 0, .int .u64 0, .int .u64 0, .int .u64 0, .bool false, .bool false, .int .u64 0, .int .u64 0, .int .u64 0, .int .u64 0, .int .i64 0, .bool false, .int .u64 0, .int .u64 0, .int .u64 0, .int .u64 0, .int .i64 0] rfl (fun _ => by kernel_rfl) rfl ?_
  intro k1 w1 hk hz hq Q1
  have hMs := M.size
  have N_k1 : w.heap.size ≤ k1 := by omega
  have nd_k1 : ¬ D k1 := fun e => by have := hDlt _ e; omega
  have nm_k1 : k1 ≠ mb.m := by omega
  have ns_k1 : ∀ b, ob mb.h = some b → b ≠ k1 := fun b hb => by have := hslt b hb; omega
  replace hS := hS.mo hq
  replace hM := hM.mo hq
  replace M := M.trans hq
  clear hk hz hq hMs
  refine wl_mv (.const (.int .i64 (0))) (.int .i64 (0)) (fun _ => rfl) rfl rfl ?_
  refine w_nil ?_
  refine xn_then ?_
  refine w_seq ?_
  refine w_seq ?_
  refine w_reg ?_
  refine wl_mv (.tmp 0) (pt t 0) (fun _ => rfl) rfl rfl ?_
  refine wl_call 30 [(.tmp 6)] _ [pt t 0] (.bool true) rfl rfl (fun _ _ => by kernel_rfl) (made_n hS) rfl ?_
  intro w2 hq
  replace Q1 := Q1.mo hq
  replace hS := hS.mo hq
  replace hM := hM.mo hq
  replace M := M.trans hq
  clear hq
  refine wl_un (fun v => Op.unary .not v) (.tmp 7) (.bool true) (.bool false) (fun _ => rfl) rfl (by kernel_rfl) rfl ?_
  refine w_nil ?_
  refine xn_then ?_
  refine w_condF rfl ?_
  refine w_skip ?_
  refine xn_then ?_
  refine w_seq ?_
  refine w_seq ?_
  refine w_reg ?_
  refine wl_mv (.tmp 0) (pt t 0) (fun _ => rfl) rfl rfl ?_
  refine wl_mv (.tmp 1) (.int .i64 ((cn.toNat : Nat) : Int)) (fun _ => rfl) rfl rfl ?_
  refine wl_call 32 [(.tmp 10), (.tmp 11)] _ [pt t 0, .int .i64 ((cn.toNat : Nat) : Int)] (.bool true) rfl rfl (fun _ _ => by kernel_rfl) (by have := has_n hS ((cn.toNat : Nat) : Int); rw [qc] at this; exact this) rfl ?_
  intro w3 hq
  replace Q1 := Q1.mo hq
  replace hS := hS.mo hq
  replace hM := hM.mo hq
  replace M := M.trans hq
  clear hq
  refine wl_un (fun v => Op.unary .not v) (.tmp 12) (.bool true) (.bool false) (fun _ => rfl) rfl (by kernel_rfl) rfl ?_
  refine w_nil ?_
  refine xn_then ?_
  refine w_condF rfl ?_
  refine w_skip ?_
  refine xn_then ?_
  refine w_seq ?_
  refine w_reg ?_
  refine wl_mv (.tmp 0) (pt t 0) (fun _ => rfl) rfl rfl ?_
  refine wl_mv (.tmp 0) (pt t 0) (fun _ => rfl) rfl rfl ?_
  refine wl_nc (.tmp 16) t 0 rfl rfl rfl ?_
  refine wl_un (fun v => Instr.fieldAt 68 v 1) (.tmp 17) (pt t 0) (pt t 1) (fun _ => rfl) rfl (by kernel_rfl) rfl ?_
  refine wl_load 65 (.tmp 18) (pt t 1) (pp tr.p) rfl rfl (run_one hS.tr 65 1 rfl Try.underlying65 rfl) rfl ?_
  refine wl_bsl [(0, (.tmp 19))] [pp tr.p] 1 rfl rfl (bs1 tr.p) rfl ?_
  intro g2 w4 hk hz hq Q2
  have nd_g2 : ¬ D g2 := fun e => by have := hS.lt e; omega
  replace Q1 := Q1.mo hq
  replace hS := hS.mo hq
  replace hM := hM.mo hq
  replace M := M.trans hq
  clear hk hz hq
  refine wl_callg 34 [(.tmp 15), (.tmp 20)] _ [pt t 0, .slice (some ⟨g2, 0, none⟩) 1 1] (.tuple #[]) rfl rfl (fun _ _ => by kernel_rfl) (look_n [tr.p] g2 hS Q2 nd_g2 (by simp only [List.length_cons, List.length_nil]; omega)) rfl ?_
  intro w5 hF
  replace Q1 := hF.2.at Q1 nd_k1
  have hc1 := cnt_le [tr.p]
  simp only [List.length_cons, List.length_nil] at hc1
  obtain ⟨hS2, hM2⟩ := hF
  replace hS := hS2
  replace M := M.same hM2
  replace hM := hM.mk hM2 hS.nb
  clear hS2 hM2 Q2 nd_g2
  refine w_nil ?_
  refine xn_then ?_
  refine w_seq ?_
  refine w_reg ?_
  refine wl_mv (.tmp 0) (pt t 0) (fun _ => rfl) rfl rfl ?_
  refine wl_nc (.tmp 22) t 0 rfl rfl rfl ?_
  refine wl_un (fun v => Instr.fieldAt 68 v 1) (.tmp 23) (pt t 0) (pt t 1) (fun _ => rfl) rfl (by kernel_rfl) rfl ?_
  refine wl_load 65 (.tmp 24) (pt t 1) (pp tr.p) rfl rfl (run_one hS.tr 65 1 rfl Try.underlying65 rfl) rfl ?_
  refine wl_mv (.tmp 1) (.int .i64 ((cn.toNat : Nat) : Int)) (fun _ => rfl) rfl rfl ?_
  refine wl_call 35 [(.tmp 25), (.tmp 26)] _ [pp tr.p, .int .i64 ((cn.toNat : Nat) : Int)] (.agg #[.int .i64 ((col cn.toNat (mb.sc.getD cn.toNat 0) tr.ids)).r, .int .i64 ((col cn.toNat (mb.sc.getD cn.toNat 0) tr.ids)).f, .int .i64 ((col cn.toNat (mb.sc.getD cn.toNat 0) tr.ids)).k, .int .i64 ((col cn.toNat (mb.sc.getD cn.toNat 0) tr.ids)).d, .int .i64 ((col cn.toNat (mb.sc.getD cn.toNat 0) tr.ids)).e, .int .u64 (l0 ((col cn.toNat (mb.sc.getD cn.toNat 0) tr.ids)).tt), .int .u64 (l1 ((col cn.toNat (mb.sc.getD cn.toNat 0) tr.ids)).tt), .int .u64 (l2 ((col cn.toNat (mb.sc.getD cn.toNat 0) tr.ids)).tt), .int .u64 (l3 ((col cn.toNat (mb.sc.getD cn.toNat 0) tr.ids)).tt), .int .u64 (l4 ((col cn.toNat (mb.sc.getD cn.toNat 0) tr.ids)).tt), .bool ((col cn.toNat (mb.sc.getD cn.toNat 0) tr.ids)).so, .bool ((col cn.toNat (mb.sc.getD cn.toNat 0) tr.ids)).mn.b, .int .u64 (l0 ((col cn.toNat (mb.sc.getD cn.toNat 0) tr.ids)).mn.n), .int .u64 (l1 ((col cn.toNat (mb.sc.getD cn.toNat 0) tr.ids)).mn.n), .int .u64 (l2 ((col cn.toNat (mb.sc.getD cn.toNat 0) tr.ids)).mn.n), .int .u64 (l3 ((col cn.toNat (mb.sc.getD cn.toNat 0) tr.ids)).mn.n), .int .i64 ((col cn.toNat (mb.sc.getD cn.toNat 0) tr.ids)).mn.s, .bool ((col cn.toNat (mb.sc.getD cn.toNat 0) tr.ids)).mx.b, .int .u64 (l0 ((col cn.toNat (mb.sc.getD cn.toNat 0) tr.ids)).mx.n), .int .u64 (l1 ((col cn.toNat (mb.sc.getD cn.toNat 0) tr.ids)).mx.n), .int .u64 (l2 ((col cn.toNat (mb.sc.getD cn.toNat 0) tr.ids)).mx.n), .int .u64 (l3 ((col cn.toNat (mb.sc.getD cn.toNat 0) tr.ids)).mx.n), .int .i64 ((col cn.toNat (mb.sc.getD cn.toNat 0) tr.ids)).mx.s]) rfl rfl (fun _ _ => by kernel_rfl) (sum_o hS hsum) rfl ?_
  intro w6 hq
  replace Q1 := Q1.mo hq
  replace hS := hS.mo hq
  replace hM := hM.mo hq
  replace M := M.trans hq
  clear hq
  refine wl_stx2 42 (.tmp 4) (.tmp 27) k1 0 #[.int .i64 ((col cn.toNat (mb.sc.getD cn.toNat 0) tr.ids)).r, .int .i64 ((col cn.toNat (mb.sc.getD cn.toNat 0) tr.ids)).f, .int .i64 ((col cn.toNat (mb.sc.getD cn.toNat 0) tr.ids)).k, .int .i64 ((col cn.toNat (mb.sc.getD cn.toNat 0) tr.ids)).d, .int .i64 ((col cn.toNat (mb.sc.getD cn.toNat 0) tr.ids)).e, .int .u64 (l0 ((col cn.toNat (mb.sc.getD cn.toNat 0) tr.ids)).tt), .int .u64 (l1 ((col cn.toNat (mb.sc.getD cn.toNat 0) tr.ids)).tt), .int .u64 (l2 ((col cn.toNat (mb.sc.getD cn.toNat 0) tr.ids)).tt), .int .u64 (l3 ((col cn.toNat (mb.sc.getD cn.toNat 0) tr.ids)).tt), .int .u64 (l4 ((col cn.toNat (mb.sc.getD cn.toNat 0) tr.ids)).tt), .bool ((col cn.toNat (mb.sc.getD cn.toNat 0) tr.ids)).so, .bool ((col cn.toNat (mb.sc.getD cn.toNat 0) tr.ids)).mn.b, .int .u64 (l0 ((col cn.toNat (mb.sc.getD cn.toNat 0) tr.ids)).mn.n), .int .u64 (l1 ((col cn.toNat (mb.sc.getD cn.toNat 0) tr.ids)).mn.n), .int .u64 (l2 ((col cn.toNat (mb.sc.getD cn.toNat 0) tr.ids)).mn.n), .int .u64 (l3 ((col cn.toNat (mb.sc.getD cn.toNat 0) tr.ids)).mn.n), .int .i64 ((col cn.toNat (mb.sc.getD cn.toNat 0) tr.ids)).mn.s, .bool ((col cn.toNat (mb.sc.getD cn.toNat 0) tr.ids)).mx.b, .int .u64 (l0 ((col cn.toNat (mb.sc.getD cn.toNat 0) tr.ids)).mx.n), .int .u64 (l1 ((col cn.toNat (mb.sc.getD cn.toNat 0) tr.ids)).mx.n), .int .u64 (l2 ((col cn.toNat (mb.sc.getD cn.toNat 0) tr.ids)).mx.n), .int .u64 (l3 ((col cn.toNat (mb.sc.getD cn.toNat 0) tr.ids)).mx.n), .int .i64 ((col cn.toNat (mb.sc.getD cn.toNat 0) tr.ids)).mx.s] [.int .i64 0, .int .i64 0, .int .i64 0, .int .i64 0, .int .i64 0, .int .u64 0, .int .u64 0, .int .u64 0, .int .u64 0, .int .u64 0, .bool false, .bool false, .int .u64 0, .int .u64 0, .int .u64 0, .int .u64 0, .int .i64 0, .bool false, .int .u64 0, .int .u64 0, .int .u64 0, .int .u64 0, .int .i64 0] [.int .i64 ((col cn.toNat (mb.sc.getD cn.toNat 0) tr.ids)).r, .int .i64 ((col cn.toNat (mb.sc.getD cn.toNat 0) tr.ids)).f, .int .i64 ((col cn.toNat (mb.sc.getD cn.toNat 0) tr.ids)).k, .int .i64 ((col cn.toNat (mb.sc.getD cn.toNat 0) tr.ids)).d, .int .i64 ((col cn.toNat (mb.sc.getD cn.toNat 0) tr.ids)).e, .int .u64 (l0 ((col cn.toNat (mb.sc.getD cn.toNat 0) tr.ids)).tt), .int .u64 (l1 ((col cn.toNat (mb.sc.getD cn.toNat 0) tr.ids)).tt), .int .u64 (l2 ((col cn.toNat (mb.sc.getD cn.toNat 0) tr.ids)).tt), .int .u64 (l3 ((col cn.toNat (mb.sc.getD cn.toNat 0) tr.ids)).tt), .int .u64 (l4 ((col cn.toNat (mb.sc.getD cn.toNat 0) tr.ids)).tt), .bool ((col cn.toNat (mb.sc.getD cn.toNat 0) tr.ids)).so, .bool ((col cn.toNat (mb.sc.getD cn.toNat 0) tr.ids)).mn.b, .int .u64 (l0 ((col cn.toNat (mb.sc.getD cn.toNat 0) tr.ids)).mn.n), .int .u64 (l1 ((col cn.toNat (mb.sc.getD cn.toNat 0) tr.ids)).mn.n), .int .u64 (l2 ((col cn.toNat (mb.sc.getD cn.toNat 0) tr.ids)).mn.n), .int .u64 (l3 ((col cn.toNat (mb.sc.getD cn.toNat 0) tr.ids)).mn.n), .int .i64 ((col cn.toNat (mb.sc.getD cn.toNat 0) tr.ids)).mn.s, .bool ((col cn.toNat (mb.sc.getD cn.toNat 0) tr.ids)).mx.b, .int .u64 (l0 ((col cn.toNat (mb.sc.getD cn.toNat 0) tr.ids)).mx.n), .int .u64 (l1 ((col cn.toNat (mb.sc.getD cn.toNat 0) tr.ids)).mx.n), .int .u64 (l2 ((col cn.toNat (mb.sc.getD cn.toNat 0) tr.ids)).mx.n), .int .u64 (l3 ((col cn.toNat (mb.sc.getD cn.toNat 0) tr.ids)).mx.n), .int .i64 ((col cn.toNat (mb.sc.getD cn.toNat 0) tr.ids)).mx.s] Q1 rfl rfl rfl rfl rfl zs42 rfl rfl rfl ?_
  intro w7 hT Qn
  replace Q1 := Qn
  have hK := Mk.st1 hT
  replace hM := hM.mk hK (Ne.symm nm_k1)
  replace hS := hS.kept hK (fun j e q => nd_k1 (q ▸ e)) (fun b hb q => ns_k1 b hb q)
  replace M := M.tr hK (fun j hj e => absurd e (by omega))
  clear hT hK Qn
  refine wl_mv (.const (.int .i64 (0))) (.int .i64 (0)) (fun _ => rfl) rfl rfl ?_
  refine w_nil ?_
  refine xn_then ?_
  refine w_ret ?_
  exact w_ret2 _ _ (.agg #[.int .i64 ((col cn.toNat (mb.sc.getD cn.toNat 0) tr.ids)).r, .int .i64 ((col cn.toNat (mb.sc.getD cn.toNat 0) tr.ids)).f, .int .i64 ((col cn.toNat (mb.sc.getD cn.toNat 0) tr.ids)).k, .int .i64 ((col cn.toNat (mb.sc.getD cn.toNat 0) tr.ids)).d, .int .i64 ((col cn.toNat (mb.sc.getD cn.toNat 0) tr.ids)).e, .int .u64 (l0 ((col cn.toNat (mb.sc.getD cn.toNat 0) tr.ids)).tt), .int .u64 (l1 ((col cn.toNat (mb.sc.getD cn.toNat 0) tr.ids)).tt), .int .u64 (l2 ((col cn.toNat (mb.sc.getD cn.toNat 0) tr.ids)).tt), .int .u64 (l3 ((col cn.toNat (mb.sc.getD cn.toNat 0) tr.ids)).tt), .int .u64 (l4 ((col cn.toNat (mb.sc.getD cn.toNat 0) tr.ids)).tt), .bool ((col cn.toNat (mb.sc.getD cn.toNat 0) tr.ids)).so, .bool ((col cn.toNat (mb.sc.getD cn.toNat 0) tr.ids)).mn.b, .int .u64 (l0 ((col cn.toNat (mb.sc.getD cn.toNat 0) tr.ids)).mn.n), .int .u64 (l1 ((col cn.toNat (mb.sc.getD cn.toNat 0) tr.ids)).mn.n), .int .u64 (l2 ((col cn.toNat (mb.sc.getD cn.toNat 0) tr.ids)).mn.n), .int .u64 (l3 ((col cn.toNat (mb.sc.getD cn.toNat 0) tr.ids)).mn.n), .int .i64 ((col cn.toNat (mb.sc.getD cn.toNat 0) tr.ids)).mn.s, .bool ((col cn.toNat (mb.sc.getD cn.toNat 0) tr.ids)).mx.b, .int .u64 (l0 ((col cn.toNat (mb.sc.getD cn.toNat 0) tr.ids)).mx.n), .int .u64 (l1 ((col cn.toNat (mb.sc.getD cn.toNat 0) tr.ids)).mx.n), .int .u64 (l2 ((col cn.toNat (mb.sc.getD cn.toNat 0) tr.ids)).mx.n), .int .u64 (l3 ((col cn.toNat (mb.sc.getD cn.toNat 0) tr.ids)).mx.n), .int .i64 ((col cn.toNat (mb.sc.getD cn.toNat 0) tr.ids)).mx.s]) (.int .i64 (0)) rfl ⟨k1, rfl, (run_row Q1 42 0 23 [.int .i64 ((col cn.toNat (mb.sc.getD cn.toNat 0) tr.ids)).r, .int .i64 ((col cn.toNat (mb.sc.getD cn.toNat 0) tr.ids)).f, .int .i64 ((col cn.toNat (mb.sc.getD cn.toNat 0) tr.ids)).k, .int .i64 ((col cn.toNat (mb.sc.getD cn.toNat 0) tr.ids)).d, .int .i64 ((col cn.toNat (mb.sc.getD cn.toNat 0) tr.ids)).e, .int .u64 (l0 ((col cn.toNat (mb.sc.getD cn.toNat 0) tr.ids)).tt), .int .u64 (l1 ((col cn.toNat (mb.sc.getD cn.toNat 0) tr.ids)).tt), .int .u64 (l2 ((col cn.toNat (mb.sc.getD cn.toNat 0) tr.ids)).tt), .int .u64 (l3 ((col cn.toNat (mb.sc.getD cn.toNat 0) tr.ids)).tt), .int .u64 (l4 ((col cn.toNat (mb.sc.getD cn.toNat 0) tr.ids)).tt), .bool ((col cn.toNat (mb.sc.getD cn.toNat 0) tr.ids)).so, .bool ((col cn.toNat (mb.sc.getD cn.toNat 0) tr.ids)).mn.b, .int .u64 (l0 ((col cn.toNat (mb.sc.getD cn.toNat 0) tr.ids)).mn.n), .int .u64 (l1 ((col cn.toNat (mb.sc.getD cn.toNat 0) tr.ids)).mn.n), .int .u64 (l2 ((col cn.toNat (mb.sc.getD cn.toNat 0) tr.ids)).mn.n), .int .u64 (l3 ((col cn.toNat (mb.sc.getD cn.toNat 0) tr.ids)).mn.n), .int .i64 ((col cn.toNat (mb.sc.getD cn.toNat 0) tr.ids)).mn.s, .bool ((col cn.toNat (mb.sc.getD cn.toNat 0) tr.ids)).mx.b, .int .u64 (l0 ((col cn.toNat (mb.sc.getD cn.toNat 0) tr.ids)).mx.n), .int .u64 (l1 ((col cn.toNat (mb.sc.getD cn.toNat 0) tr.ids)).mx.n), .int .u64 (l2 ((col cn.toNat (mb.sc.getD cn.toNat 0) tr.ids)).mx.n), .int .u64 (l3 ((col cn.toNat (mb.sc.getD cn.toNat 0) tr.ids)).mx.n), .int .i64 ((col cn.toNat (mb.sc.getD cn.toNat 0) tr.ids)).mx.s] rfl Try.underlying42 rfl zs42)⟩ rfl ⟨((lk) + cnt [tr.p]), rfl, h.lkd ⟨R, tr.p, ⟨hS, hAp, hC, hR, hn⟩⟩ hM (by omega), by omega, by omega, M⟩
end
end G
end Go.Proofs.Ythfemlhmnjfjiaa
/-
  Parts of a column.
-/
namespace Go.Proofs.Ythfemlhmnjfjiaa
open Go.RowKit
namespace G
theorem cols_gd {c : Nat} {s : Int} {L : List Py} (h : ∀ y ∈ L, y.ok) : ∀ S ∈ L.map (fun y => ofs (y.vs.getD c v0) s), Gd s S ∧ S.ok := fun S hS => by
  obtain ⟨z, hz, rfl⟩ := List.mem_map.1 hS
  exact ⟨(ofs_n _ ((h z hz).at c) s).2.1, (ofs_n _ ((h z hz).at c) s).1⟩
theorem col_app {c : Nat} {s : Int} {A B : List Py} (hA : ∀ z ∈ A, z.ok) (hB : ∀ z ∈ B, z.ok) : col c s (A ++ B) = jn (col c s A) (col c s B) := by
  unfold col
  rw [List.map_append, fold_cut _ _ (fun S h => (cols_gd hA S h).1) (fun S h => (cols_gd hB S h).1)]
theorem col_ok {c : Nat} {s : Int} {L : List Py} (h : ∀ y ∈ L, y.ok) : (col c s L).ok := fold_ok _ sm0_ok (fun S hS => (cols_gd h S hS).2)
theorem col_one {c : Nat} {s : Int} {y : Py} (h : y.ok) : col c s [y] = ofs (y.vs.getD c v0) s := jn_0l (ofs_n _ (h.at c) s).2.1
/-- The summary of a column of the rows from a place on, up to the one ahead of another. -/
def prt (c : Nat) (s a b : Int) (L : List Py) : Sm := col c s ((L.take b.toNat).drop a.toNat)
section
variable {c : Nat} {s a b : Int} {L A B : List Py} {y : Py}
theorem cut_ok (h : ∀ y ∈ L, y.ok) (m n : Nat) : ∀ y ∈ (L.take m).drop n, y.ok := fun y hy => h y (List.mem_of_mem_take (List.mem_of_mem_drop hy))
theorem prt_gd (h : ∀ y ∈ L, y.ok) : Gd s (prt c s a b L) := col_gd (cut_ok h _ _)
theorem prt_ok (h : ∀ y ∈ L, y.ok) : (prt c s a b L).ok := col_ok (cut_ok h _ _)
theorem prt_all (h1 : a ≤ 0) (h2 : (L.length : Int) ≤ b) : prt c s a b L = col c s L := by
  unfold prt
  rw [show a.toNat = 0 by omega, List.drop_zero, List.take_of_length_le (by omega)]
theorem prt_lo (h : b ≤ 0) : prt c s a b L = sm0 := by
  unfold prt
  rw [show b.toNat = 0 by omega, List.take_zero, List.drop_nil]; rfl
theorem prt_hi (h : (L.length : Int) ≤ a) : prt c s a b L = sm0 := by
  unfold prt
  rw [List.drop_eq_nil_of_le (by rw [List.length_take]; omega)]; rfl
theorem j2 {S U : Sm} (h : Gd s S) : [S, U].foldl jn sm0 = jn S U := by
  show jn (jn sm0 S) U = _
  rw [jn_0l h]
theorem cut_lo (m n : Nat) (h : m ≤ A.length) : ((A ++ y :: B).take m).drop n = (A.take m).drop n ++ (B.take (m - A.length - 1)).drop (n - A.length - 1) := by
  rw [List.take_append_of_le_length h, show m - A.length - 1 = 0 by omega, List.take_zero, List.drop_nil, List.append_nil]
theorem cut_hi (m n : Nat) (h : A.length < m) (h2 : A.length < n) : ((A ++ y :: B).take m).drop n = (A.take m).drop n ++ (B.take (m - A.length - 1)).drop (n - A.length - 1) := by
  rw [List.take_append, List.take_of_length_le (by omega), List.drop_append, List.drop_eq_nil_of_le (by omega), List.nil_append, List.nil_append]
  obtain ⟨m1, rfl⟩ : ∃ q, m = A.length + 1 + q := ⟨m - A.length - 1, by omega⟩
  obtain ⟨n1, rfl⟩ : ∃ q, n = A.length + 1 + q := ⟨n - A.length - 1, by omega⟩
  rw [show A.length + 1 + m1 - A.length = m1 + 1 by omega, show A.length + 1 + n1 - A.length = n1 + 1 by omega, List.take_succ_cons, List.drop_succ_cons]
  rfl
theorem cut_mid (m n : Nat) (h : A.length < m) (h2 : n ≤ A.length) : ((A ++ y :: B).take m).drop n = (A.take m).drop n ++ [y] ++ (B.take (m - A.length - 1)).drop (n - A.length - 1) := by
  rw [List.take_append, List.take_of_length_le (by omega), List.drop_append, show n - A.length = 0 by omega]
  obtain ⟨m1, rfl⟩ : ∃ q, m = A.length + 1 + q := ⟨m - A.length - 1, by omega⟩
  rw [show A.length + 1 + m1 - A.length = m1 + 1 by omega, List.take_succ_cons]
  simp
theorem prt_mid {z : Int} (hz : z = A.length) (hA : ∀ z ∈ A, z.ok) (hy : y.ok) (hB : ∀ z ∈ B, z.ok) (h1 : a ≤ z) (h2 : z < b) : [[prt c s a b A, ofs (y.vs.getD c v0) s].foldl jn sm0, prt c s (a - z - 1) (b - z - 1) B].foldl jn sm0 = prt c s a b (A ++ y :: B) := by
  have ga := prt_gd (c := c) (s := s) (a := a) (b := b) hA
  have gy := (ofs_n _ (hy.at c) s).2.1
  rw [j2 ga, j2 (jn_gd ga gy)]
  unfold prt
  rw [cut_mid b.toNat a.toNat (by omega) (by omega), col_app (fun x hx => by
    rcases List.mem_append.1 hx with h | h
    · exact cut_ok hA _ _ x h
    · rw [List.mem_singleton.1 h]; exact hy) (cut_ok hB _ _), col_app (cut_ok hA _ _) (fun x hx => by rw [List.mem_singleton.1 hx]; exact hy), col_one hy, show (b - z - 1).toNat = b.toNat - A.length - 1 by omega, show (a - z - 1).toNat = a.toNat - A.length - 1 by omega]
theorem prt_out {z : Int} (hz : z = A.length) (hA : ∀ z ∈ A, z.ok) (hB : ∀ z ∈ B, z.ok) (h : z < a ∨ b ≤ z) : [prt c s a b A, prt c s (a - z - 1) (b - z - 1) B].foldl jn sm0 = prt c s a b (A ++ y :: B) := by
  have ga := prt_gd (c := c) (s := s) (a := a) (b := b) hA
  rw [j2 ga]
  unfold prt
  have e : ((A ++ y :: B).take b.toNat).drop a.toNat = (A.take b.toNat).drop a.toNat ++ (B.take (b.toNat - A.length - 1)).drop (a.toNat - A.length - 1) := by
    by_cases hb : b.toNat ≤ A.length
    · exact cut_lo _ _ hb
    · exact cut_hi _ _ (by omega) (by omega)
  rw [e, col_app (cut_ok hA _ _) (cut_ok hB _ _), show (b - z - 1).toNat = b.toNat - A.length - 1 by omega, show (a - z - 1).toNat = a.toNat - A.length - 1 by omega]
end
theorem bs47b (A B : Sm) (w : World) : (Instr.buildSlice 47 2 #[(0, smv A), (1, smv B)]).run Try.prog w = .ok (.slice (some ⟨w.heap.size, 0, none⟩) 2 2) (w.alloc (.cells (sml A ++ sml B).toArray 42)) := by kernel_rfl
theorem ss2 (A B : Sm) (w : World) : SS (w.alloc (.cells (sml A ++ sml B).toArray 42)) (some ⟨w.heap.size, 0, none⟩) [A, B] := by
  have hA := At.new w (sml A ++ sml B).toArray 42
  have hl := hA.2.2
  intro i S hi
  refine ⟨w.heap.size, 0, rfl, hl, fun j v hv => ?_⟩
  have hr := hA.1
  have hj : j < 23 := (List.getElem?_eq_some_iff.1 hv).1
  have key : (sml A ++ sml B)[i * 23 + j]? = some v := by
    match i, hi with
    | 0, hi => cases hi; rw [List.getElem?_append_left (by rw [sml_len]; omega), ← hv]; congr 1; omega
    | 1, hi => cases hi; rw [List.getElem?_append_right (by rw [sml_len]; omega), sml_len, ← hv]; congr 1; omega
    | i + 2, hi => simp at hi
  have := hr (i * 23 + j) v key
  rw [show 0 + i * 23 + j = 0 + (i * 23 + j) by omega]
  exact this
section
variable {o : Oper} {n : Nat} {l : List (Nat × Value)} {w : World} {ops : Array Oper} {rest : List Oper} {Q : Exit → Act → World → Prop}
theorem wl_bs47b (x y : Operand) (A B : Sm) (ho : o.op = .buildSlice 47 2 #[(0, x), (1, y)]) (hx : evl n l x = smv A) (hy : evl n l y = smv B) (hg : wnt n l ops o = true)
    (hk : ∀ k w', w.heap.size = k → Mo w w' → SS w' (some ⟨k, 0, none⟩) [A, B] → WL Try.prog ops Q rest n (ext l o.dst (.slice (some ⟨k, 0, none⟩) 2 2)) w') : WL Try.prog ops Q (o :: rest) n l w :=
  ⟨l_step hg (o_val (.slice (some ⟨w.heap.size, 0, none⟩) 2 2) (w' := w.alloc (.cells (sml A ++ sml B).toArray 42)) (by
    have h := bs47b A B w
    simp only [execOp, ho, List.map_toArray, List.map_cons, List.map_nil, hx, hy, Sem.run_bind, h, Result.andThen_ok]
    simp) (hk _ _ rfl ((Mo.refl _).alloc _ _) (ss2 A B w)).out)⟩
end
theorem leI {a b : Int} {r : Bool} (h : decide (a ≤ b) = r) (x y : Operand) (w : World) : (do eqGuard .leq 3 x y (.int .i64 a) (.int .i64 b); binOp .leq 3 (.int .i64 a) (.int .i64 b)).run Try.prog w = .ok (.bool r) w := by
  subst h; kernel_rfl
end G
end Go.Proofs.Ythfemlhmnjfjiaa
