/-
  The tree's calls: made, Len, Insert, Delete, Move, At, Index, Looked, Depth.
-/
import Derived.Test.YtbmbldloeblbbaaFu
namespace Go.Proofs.Ytbmbldloeblbbaa
open Go.RowKit
section
variable {D : Nat → Prop} {w : World} {t mb : Nat} {R : Mp} {root : Option Nat} {lk : Int}
theorem ne23 (k : Nat) (a b : Operand) (w : World) : (do eqGuard .neq 23 a b (pt k 0) (.pointer none); binOp .neq 23 (pt k 0) (.pointer none)).run Try.prog w = .ok (.bool true) w := by kernel_rfl
theorem ne57 (k : Nat) (a b : Operand) (w : World) : (do eqGuard .neq 57 a b (.map (some k)) (.map none); binOp .neq 57 (.map (some k)) (.map none)).run Try.prog w = .ok (.bool true) w := by kernel_rfl
theorem ltL {a b : Int} {r : Bool} (h : decide (a < b) = r) (x y : Operand) (w : World) : (do eqGuard .lss 2 x y (.int .i64 a) (.int .i64 b); binOp .lss 2 (.int .i64 a) (.int .i64 b)).run Try.prog w = .ok (.bool r) w := by
  subst h; kernel_rfl
theorem gtL {a b : Int} {r : Bool} (h : decide (b < a) = r) (x y : Operand) (w : World) : (do eqGuard .gtr 2 x y (.int .i64 a) (.int .i64 b); binOp .gtr 2 (.int .i64 a) (.int .i64 b)).run Try.prog w = .ok (.bool r) w := by
  subst h; kernel_rfl
theorem lenm {b n : Nat} {f : Int → Option Nat} (hM : OM w b f n) (ρ : Operand → Value) (x : Operand) (hx : ρ x = .map (some b)) (dst : Option Tmp) (type : TypeId) (pos : String) (after : Array Edge) (guard : Option (Nat × Bool)) : (execOp ρ { dst, op := .call { callee := .builtin .len, args := #[x], argTypes := #[57] }, type, pos, after, guard }).run Try.prog w = .ok (.value (.int .i64 (n : Int))) w := by
  unfold execOp
  simp only [resolve, invoke, builtin, Sem.run_bind, Sem.run_pure, Result.andThen_ok, List.map_toArray, List.map_cons, List.map_nil, hx, hM.len]
theorem made_n {w : World} (hS : HS D w t mb R root lk) : Calls Try.prog 29 #[pt t 0] w fun e w' => e = .returned (.bool true) ∧ Mo w w' := by
  refine w_enter 12 Try.func29 Try.ntmps29 rfl rfl ?_
  have M : Mo w w := Mo.refl _
  refine w_seq ?_
  refine w_reg ?_
  refine wl_mv (.const (.bool false)) (.bool false) (fun _ => rfl) rfl rfl ?_
  refine w_nil ?_
  refine xn_then ?_
  refine w_seq ?_
  refine w_reg ?_
  refine wl_mv (.tmp 0) (pt t 0) (fun _ => rfl) rfl rfl ?_
  refine wl_bin (fun x y => do eqGuard .neq 23 (.tmp 3) (.const (.pointer none)) x y; binOp .neq 23 x y) (.tmp 3) (.const (.pointer none)) (pt t 0) (pp none) (.bool true) (fun _ => rfl) rfl rfl (ne23 t _ _ _) rfl ?_
  refine wl_mv (.tmp 4) (.bool true) (fun _ => rfl) rfl rfl ?_
  refine wl_mv (.tmp 0) (pt t 0) (fun _ => rfl) rfl rfl ?_
  refine wl_nc (.tmp 6) t 0 rfl rfl rfl ?_
  refine wl_un (fun v => Instr.fieldAt 59 v 1) (.tmp 7) (pt t 0) (pt t 1) (fun _ => rfl) rfl (by kernel_rfl) rfl ?_
  refine wl_load 57 (.tmp 8) (pt t 1) (.map (some mb)) rfl rfl (run_one hS.tr 57 1 rfl Try.underlying57 rfl) rfl ?_
  refine wl_bin (fun x y => do eqGuard .neq 57 (.tmp 9) (.const (.map none)) x y; binOp .neq 57 x y) (.tmp 9) (.const (.map none)) (.map (some mb)) (.map none) (.bool true) (fun _ => rfl) rfl rfl (ne57 mb _ _ _) rfl ?_
  refine wl_pick (.tmp 5) (.tmp 10) (.const (.bool false)) true (.bool true) (fun _ => rfl) rfl rfl rfl ?_
  refine wl_mv (.tmp 11) (.bool true) (fun _ => rfl) rfl rfl ?_
  refine w_nil ?_
  refine xn_then ?_
  refine w_ret ?_
  exact w_ret1 _ (.bool true) rfl rfl ⟨rfl, M⟩
theorem len_n {w : World} {f : Int → Option Nat} {n : Nat} (hS : HS D w t mb R root lk) (hM : OM w mb f n) : Calls Try.prog 15 #[pt t 0] w fun e w' => e = .returned (.int .i64 (n : Int)) ∧ Mo w w' := by
  refine w_enter 11 Try.func15 Try.ntmps15 rfl rfl ?_
  have M : Mo w w := Mo.refl _
  refine w_seq ?_
  refine w_reg ?_
  refine wl_mv (.const (.int .i64 (0))) (.int .i64 (0)) (fun _ => rfl) rfl rfl ?_
  refine w_nil ?_
  refine xn_then ?_
  refine w_seq ?_
  refine w_seq ?_
  refine w_reg ?_
  refine wl_mv (.tmp 0) (pt t 0) (fun _ => rfl) rfl rfl ?_
  refine wl_call 29 [(.tmp 3)] _ [pt t 0] (.bool true) rfl rfl (fun _ _ => by kernel_rfl) (made_n hS) rfl ?_
  intro w1 hq
  replace hS := hS.mo hq
  replace hM := hM.mo hq
  replace M := M.trans hq
  clear hq
  refine wl_un (fun v => Op.unary .not v) (.tmp 4) (.bool true) (.bool false) (fun _ => rfl) rfl (by kernel_rfl) rfl ?_
  refine w_nil ?_
  refine xn_then ?_
  refine w_condF rfl ?_
  refine w_skip ?_
  refine xn_then ?_
  refine w_seq ?_
  refine w_reg ?_
  refine wl_mv (.tmp 0) (pt t 0) (fun _ => rfl) rfl rfl ?_
  refine wl_nc (.tmp 6) t 0 rfl rfl rfl ?_
  refine wl_un (fun v => Instr.fieldAt 59 v 1) (.tmp 7) (pt t 0) (pt t 1) (fun _ => rfl) rfl (by kernel_rfl) rfl ?_
  refine wl_load 57 (.tmp 8) (pt t 1) (.map (some mb)) rfl rfl (run_one hS.tr 57 1 rfl Try.underlying57 rfl) rfl ?_
  refine wl_val (.int .i64 ((n : Int))) (lenm hM _ _ (by exact rfl) _ _ _ _ _) rfl ?_
  refine wl_mv (.tmp 10) (.int .i64 ((n : Int))) (fun _ => rfl) rfl rfl ?_
  refine w_nil ?_
  refine xn_then ?_
  refine w_ret ?_
  exact w_ret1 _ (.int .i64 ((n : Int))) rfl rfl ⟨rfl, M⟩
theorem looked_n {w : World} (hS : HS D w t mb R root lk) : Calls Try.prog 18 #[pt t 0] w fun e w' => e = .returned (.int .i64 lk) ∧ Mo w w' := by
  refine w_enter 10 Try.func18 Try.ntmps18 rfl rfl ?_
  have M : Mo w w := Mo.refl _
  refine w_seq ?_
  refine w_reg ?_
  refine wl_mv (.const (.int .i64 (0))) (.int .i64 (0)) (fun _ => rfl) rfl rfl ?_
  refine w_nil ?_
  refine xn_then ?_
  refine w_seq ?_
  refine w_seq ?_
  refine w_reg ?_
  refine wl_mv (.tmp 0) (pt t 0) (fun _ => rfl) rfl rfl ?_
  refine wl_call 29 [(.tmp 3)] _ [pt t 0] (.bool true) rfl rfl (fun _ _ => by kernel_rfl) (made_n hS) rfl ?_
  intro w1 hq
  replace hS := hS.mo hq
  replace M := M.trans hq
  clear hq
  refine wl_un (fun v => Op.unary .not v) (.tmp 4) (.bool true) (.bool false) (fun _ => rfl) rfl (by kernel_rfl) rfl ?_
  refine w_nil ?_
  refine xn_then ?_
  refine w_condF rfl ?_
  refine w_skip ?_
  refine xn_then ?_
  refine w_seq ?_
  refine w_reg ?_
  refine wl_mv (.tmp 0) (pt t 0) (fun _ => rfl) rfl rfl ?_
  refine wl_nc (.tmp 6) t 0 rfl rfl rfl ?_
  refine wl_un (fun v => Instr.fieldAt 59 v 2) (.tmp 7) (pt t 0) (pt t 2) (fun _ => rfl) rfl (by kernel_rfl) rfl ?_
  refine wl_load 2 (.tmp 8) (pt t 2) (.int .i64 (lk)) rfl rfl (run_one hS.tr 2 2 rfl Try.underlying2 rfl) rfl ?_
  refine wl_mv (.tmp 9) (.int .i64 (lk)) (fun _ => rfl) rfl rfl ?_
  refine w_nil ?_
  refine xn_then ?_
  refine w_ret ?_
  exact w_ret1 _ (.int .i64 (lk)) rfl rfl ⟨rfl, M⟩
theorem maxI (a b : Int) (ρ : Operand → Value) (x y : Operand) (hx : ρ x = .int .i64 a) (hy : ρ y = .int .i64 b) (dst : Option Tmp) (type : TypeId) (pos : String) (after : Array Edge) (guard : Option (Nat × Bool)) (w : World) : (execOp ρ { dst, op := .call { callee := .builtin .max, args := #[x, y], argTypes := #[3, 3] }, type, pos, after, guard }).run Try.prog w = .ok (.value (.int .i64 (max a b))) w := by
  simp [go_sem, hx, hy]
  split <;> omega
theorem depth_r : ∀ (tr : T) {w : World} {u : Option Nat}, HS D w t mb R root lk → Rep R u tr → tr.ht ≤ 100000 → Calls Try.prog 35 #[pp tr.p] w fun e w' => e = .returned (.int .i64 (tr.ht : Int)) ∧ Mo w w'
  | .e, w, _, _, _, _ => by
    refine w_enter 21 Try.func35 Try.ntmps35 rfl rfl ?_
    have M : Mo w w := Mo.refl _
    refine w_seq ?_
    refine w_reg ?_
    refine wl_mv (.const (.int .i64 (0))) (.int .i64 (0)) (fun _ => rfl) rfl rfl ?_
    refine w_nil ?_
    refine xn_then ?_
    refine w_seq ?_
    refine w_seq ?_
    refine w_reg ?_
    refine wl_mv (.tmp 0) (pp none) (fun _ => rfl) rfl rfl ?_
    refine wl_bin (fun x y => do eqGuard .eql 56 (.tmp 3) (.const (.pointer none)) x y; binOp .eql 56 x y) (.tmp 3) (.const (.pointer none)) (pp none) (pp none) (.bool true) (fun _ => rfl) rfl rfl (eq56 none _ _ _) rfl ?_
    refine w_nil ?_
    refine xn_then ?_
    refine w_condT rfl ?_
    refine w_seq ?_
    refine w_reg ?_
    refine wl_mv (.const (.int .i64 (0))) (.int .i64 (0)) (fun _ => rfl) rfl rfl ?_
    refine w_nil ?_
    refine xn_then ?_
    refine w_ret ?_
    refine xr_then ?_
    exact w_ret1 _ (.int .i64 (0)) rfl rfl ⟨rfl, M⟩
  | .n k i s l r, w, u, hS, hr, hb => by
    have hk := hr.1
    have hht : ((T.n k i s l r).ht : Int) = 1 + max (l.ht : Int) (r.ht : Int) := by show ((1 + max l.ht r.ht : Nat) : Int) = _; omega
    simp only [T.ht] at hb
    refine w_enter 21 Try.func35 Try.ntmps35 rfl rfl ?_
    have M : Mo w w := Mo.refl _
    refine w_seq ?_
    refine w_reg ?_
    refine wl_mv (.const (.int .i64 (0))) (.int .i64 (0)) (fun _ => rfl) rfl rfl ?_
    refine w_nil ?_
    refine xn_then ?_
    refine w_seq ?_
    refine w_seq ?_
    refine w_reg ?_
    refine wl_mv (.tmp 0) (pt k 0) (fun _ => rfl) rfl rfl ?_
    refine wl_bin (fun x y => do eqGuard .eql 56 (.tmp 3) (.const (.pointer none)) x y; binOp .eql 56 x y) (.tmp 3) (.const (.pointer none)) (pt k 0) (pp none) (.bool false) (fun _ => rfl) rfl rfl (eq56 (some k) _ _ _) rfl ?_
    refine w_nil ?_
    refine xn_then ?_
    refine w_condF rfl ?_
    refine w_skip ?_
    refine xn_then ?_
    refine w_seq ?_
    refine w_any 13 [.inl (pt k 0), .inl (pt k 0), .inl (pt k 0), .inl (pt k 1), .inl (pt k 1), .inl (pp l.p), .inl (.int .i64 ((l.ht : Int))), .inl (pt k 0), .inl (pt k 0), .inl (pt k 0), .inl (pt k 1), .inl (pt k 2), .inl (pp r.p)] [] (by kernel_rfl) (by kernel_rfl) (by kernel_rfl) (by kernel_rfl) rfl (by kernel_rfl) (by kernel_rfl) late_nil ?_ ?_ ?_
    · exact Ds.none rfl
    · refine ea_cons ?_ (ea_cons ?_ (ea_cons ?_ (ea_cons ?_ (ea_cons ?_ (ea_cons ?_ (ea_cons ?_ (ea_cons ?_ (ea_cons ?_ (ea_cons ?_ (ea_cons ?_ (ea_cons ?_ (ea_cons ?_ (ea_nil)))))))))))))
      · exact og_eq (pt k 0) rfl (fun f wf hq hd K hK => go_run rfl (wo_mv (.tmp 0) (pt k 0) (fun _ => rfl) rfl (hK _ (Mo.refl _))))
      · exact og_eq (pt k 0) rfl (fun f wf hq hd K hK => go_run rfl (wo_nc (.tmp 5) k 0 rfl (hd 0 rfl) (hK _ (Mo.refl _))))
      · exact og_eq (pt k 0) rfl (fun f wf hq hd K hK => go_run rfl (wo_un (fun v => Instr.fieldAt 66 v 0) (.tmp 6) (pt k 0) (pt k 0) (fun _ => rfl) (hd 1 rfl) (by kernel_rfl) (hK _ (Mo.refl _))))
      · exact og_eq (pt k 1) rfl (fun f wf hq hd K hK => go_run rfl (wo_un (fun v => Instr.fieldAt 64 v 1) (.tmp 7) (pt k 0) (pt k 1) (fun _ => rfl) (hd 2 rfl) (by kernel_rfl) (hK _ (Mo.refl _))))
      · exact og_eq (pt k 1) rfl (fun f wf hq hd K hK => go_run rfl (wo_bin (fun x y => Instr.indexAt 62 x y) (.tmp 8) (.const (.int .i64 (0))) (pt k 1) (.int .i64 (0)) (pt k 1) (fun _ => rfl) (hd 3 rfl) rfl (by kernel_rfl) (hK _ (Mo.refl _))))
      · exact og_eq (pp l.p) rfl (fun f wf hq hd K hK => have hS := hS.mo hq; go_run rfl (wo_load 56 (.tmp 9) (pt k 1) (pp l.p) rfl (hd 4 rfl) (run_one (hS.rc k _ hk) 56 1 rfl Try.underlying56 rfl) (hK _ (Mo.refl _))))
      · exact og_eq (.int .i64 ((l.ht : Int))) rfl (fun f wf hq hd K hK => have hS := hS.mo hq; go_run rfl (wo_call 35 [(.tmp 10)] _ [pp l.p] (.int .i64 ((l.ht : Int))) rfl (li1 (hd 5 rfl)) (fun _ _ => by kernel_rfl) (depth_r l hS hr.2.1 (by omega)) hK))
      · exact og_eq (pt k 0) rfl (fun f wf hq hd K hK => go_run rfl (wo_mv (.tmp 0) (pt k 0) (fun _ => rfl) rfl (hK _ (Mo.refl _))))
      · exact og_eq (pt k 0) rfl (fun f wf hq hd K hK => go_run rfl (wo_nc (.tmp 12) k 0 rfl (hd 7 rfl) (hK _ (Mo.refl _))))
      · exact og_eq (pt k 0) rfl (fun f wf hq hd K hK => go_run rfl (wo_un (fun v => Instr.fieldAt 66 v 0) (.tmp 13) (pt k 0) (pt k 0) (fun _ => rfl) (hd 8 rfl) (by kernel_rfl) (hK _ (Mo.refl _))))
      · exact og_eq (pt k 1) rfl (fun f wf hq hd K hK => go_run rfl (wo_un (fun v => Instr.fieldAt 64 v 1) (.tmp 14) (pt k 0) (pt k 1) (fun _ => rfl) (hd 9 rfl) (by kernel_rfl) (hK _ (Mo.refl _))))
      · exact og_eq (pt k 2) rfl (fun f wf hq hd K hK => go_run rfl (wo_bin (fun x y => Instr.indexAt 62 x y) (.tmp 15) (.const (.int .i64 (1))) (pt k 1) (.int .i64 (1)) (pt k 2) (fun _ => rfl) (hd 10 rfl) rfl (by kernel_rfl) (hK _ (Mo.refl _))))
      · exact og_eq (pp r.p) rfl (fun f wf hq hd K hK => have hS := hS.mo hq; go_run rfl (wo_load 56 (.tmp 16) (pt k 2) (pp r.p) rfl (hd 11 rfl) (run_one (hS.rc k _ hk) 56 2 rfl Try.underlying56 rfl) (hK _ (Mo.refl _))))
    intro kf1 w1 hq _ _
    replace hS := hS.mo hq
    replace M := M.trans hq
    clear hq
    refine wl_call 35 [(.tmp 17)] _ [pp r.p] (.int .i64 ((r.ht : Int))) rfl rfl (fun _ _ => by kernel_rfl) (depth_r r hS hr.2.2 (by omega)) rfl ?_
    intro w2 hq
    replace hS := hS.mo hq
    replace M := M.trans hq
    clear hq
    refine wl_val (.int .i64 (max (l.ht : Int) (r.ht : Int))) (maxI _ _ _ _ _ (by exact rfl) (by exact rfl) _ _ _ _ _ _) rfl ?_
    refine wl_bin (fun x y => do eqGuard .add 3 (.const (.int .i64 (1))) (.tmp 19) x y; binOp .add 3 x y) (.const (.int .i64 (1))) (.tmp 19) (.int .i64 (1)) (.int .i64 (max (l.ht : Int) (r.ht : Int))) (.int .i64 (1 + max (l.ht : Int) (r.ht : Int))) (fun _ => rfl) rfl rfl (addI (by omega) (by omega) _ _ _) rfl ?_
    refine wl_mv (.tmp 20) (.int .i64 (1 + max (l.ht : Int) (r.ht : Int))) (fun _ => rfl) rfl rfl ?_
    refine w_nil ?_
    refine xn_then ?_
    refine w_ret ?_
    exact w_ret1 _ (.int .i64 (1 + max (l.ht : Int) (r.ht : Int))) rfl rfl ⟨by rw [hht], M⟩
theorem depth_n {w : World} {tr : T} (hT : TS D w t mb [] tr lk) (hb : tr.ht ≤ 100000) : Calls Try.prog 22 #[pt t 0] w fun e w' => e = .returned (.int .i64 (tr.ht : Int)) ∧ Mo w w' := by
  obtain ⟨R, root, hS, hC, hR, hn⟩ := hT
  replace hC : root = tr.p := hC
  subst hC
  refine w_enter 11 Try.func22 Try.ntmps22 rfl rfl ?_
  have M : Mo w w := Mo.refl _
  refine w_seq ?_
  refine w_reg ?_
  refine wl_mv (.const (.int .i64 (0))) (.int .i64 (0)) (fun _ => rfl) rfl rfl ?_
  refine w_nil ?_
  refine xn_then ?_
  refine w_seq ?_
  refine w_seq ?_
  refine w_reg ?_
  refine wl_mv (.tmp 0) (pt t 0) (fun _ => rfl) rfl rfl ?_
  refine wl_call 29 [(.tmp 3)] _ [pt t 0] (.bool true) rfl rfl (fun _ _ => by kernel_rfl) (made_n hS) rfl ?_
  intro w1 hq
  replace hS := hS.mo hq
  replace M := M.trans hq
  clear hq
  refine wl_un (fun v => Op.unary .not v) (.tmp 4) (.bool true) (.bool false) (fun _ => rfl) rfl (by kernel_rfl) rfl ?_
  refine w_nil ?_
  refine xn_then ?_
  refine w_condF rfl ?_
  refine w_skip ?_
  refine xn_then ?_
  refine w_seq ?_
  refine w_reg ?_
  refine wl_mv (.tmp 0) (pt t 0) (fun _ => rfl) rfl rfl ?_
  refine wl_nc (.tmp 6) t 0 rfl rfl rfl ?_
  refine wl_un (fun v => Instr.fieldAt 59 v 0) (.tmp 7) (pt t 0) (pt t 0) (fun _ => rfl) rfl (by kernel_rfl) rfl ?_
  refine wl_load 56 (.tmp 8) (pt t 0) (pp tr.p) rfl rfl (run_one hS.tr 56 0 rfl Try.underlying56 rfl) rfl ?_
  refine wl_call 35 [(.tmp 9)] _ [pp tr.p] (.int .i64 ((tr.ht : Int))) rfl rfl (fun _ _ => by kernel_rfl) (depth_r tr hS hR hb) rfl ?_
  intro w2 hq
  replace hS := hS.mo hq
  replace M := M.trans hq
  clear hq
  refine wl_mv (.tmp 10) (.int .i64 ((tr.ht : Int))) (fun _ => rfl) rfl rfl ?_
  refine w_nil ?_
  refine xn_then ?_
  refine w_ret ?_
  exact w_ret1 _ (.int .i64 ((tr.ht : Int))) rfl rfl ⟨rfl, M⟩
theorem insert_a {tr : T} {at0 id : Int} (h : FT D w t mb tr lk) (q0 : decide (id < 1) = true) : Calls Try.prog 19 #[pt t 0, .int .i64 at0, .int .i64 id] w fun e w' => e = .returned (.int .i64 1) ∧ Mo w w' := by
  obtain ⟨R, root, hS, hC, hR, hn⟩ := h.ts
  have hM := h.om
  refine w_enter 43 Try.func19 Try.ntmps19 rfl rfl ?_
  have M : Mo w w := Mo.refl _
  refine w_seq ?_
  refine w_reg ?_
  refine wl_mv (.const (.int .i64 (0))) (.int .i64 (0)) (fun _ => rfl) rfl rfl ?_
  refine w_nil ?_
  refine xn_then ?_
  refine w_seq ?_
  refine w_block ?_
  refine w_seq ?_
  refine w_reg ?_
  refine wl_mv (.tmp 0) (pt t 0) (fun _ => rfl) rfl rfl ?_
  refine wl_call 29 [(.tmp 8)] _ [pt t 0] (.bool true) rfl rfl (fun _ _ => by kernel_rfl) (made_n hS) rfl ?_
  intro w1 hq
  replace hS := hS.mo hq
  replace hM := hM.mo hq
  replace M := M.trans hq
  clear hq
  refine wl_un (fun v => Op.unary .not v) (.tmp 9) (.bool true) (.bool false) (fun _ => rfl) rfl (by kernel_rfl) rfl ?_
  refine wl_mv (.tmp 10) (.bool false) (fun _ => rfl) rfl rfl ?_
  refine w_nil ?_
  refine xn_then ?_
  refine w_condF rfl ?_
  refine w_seq ?_
  refine w_reg ?_
  refine wl_mv (.tmp 2) (.int .i64 (id)) (fun _ => rfl) rfl rfl ?_
  refine wl_bin (fun x y => do eqGuard .lss 2 (.tmp 12) (.const (.int .i64 (1))) x y; binOp .lss 2 x y) (.tmp 12) (.const (.int .i64 (1))) (.int .i64 (id)) (.int .i64 (1)) (.bool true) (fun _ => rfl) rfl rfl (ltL q0 _ _ _) rfl ?_
  refine wl_mv (.tmp 13) (.bool true) (fun _ => rfl) rfl rfl ?_
  refine wl_skip rfl ?_
  refine wl_skip rfl ?_
  refine wl_pick (.tmp 14) (.const (.bool true)) (.tmp 16) true (.bool true) (fun _ => rfl) rfl rfl rfl ?_
  refine wl_mv (.tmp 17) (.bool true) (fun _ => rfl) rfl rfl ?_
  refine w_nil ?_
  refine xn_then ?_
  refine w_condT rfl ?_
  refine w_seq ?_
  refine w_reg ?_
  refine wl_mv (.const (.int .i64 (1))) (.int .i64 (1)) (fun _ => rfl) rfl rfl ?_
  refine w_nil ?_
  refine xn_then ?_
  refine w_ret ?_
  refine xr_blk ?_
  refine xr_then ?_
  exact w_ret1 _ (.int .i64 (1)) rfl rfl ⟨rfl, M⟩
theorem insert_b {tr : T} {at0 id : Int} (h : FT D w t mb tr lk) (q0 : decide (id < 1) = false) (q1 : decide (9007199254740992 < id) = true) : Calls Try.prog 19 #[pt t 0, .int .i64 at0, .int .i64 id] w fun e w' => e = .returned (.int .i64 1) ∧ Mo w w' := by
  obtain ⟨R, root, hS, hC, hR, hn⟩ := h.ts
  have hM := h.om
  refine w_enter 43 Try.func19 Try.ntmps19 rfl rfl ?_
  have M : Mo w w := Mo.refl _
  refine w_seq ?_
  refine w_reg ?_
  refine wl_mv (.const (.int .i64 (0))) (.int .i64 (0)) (fun _ => rfl) rfl rfl ?_
  refine w_nil ?_
  refine xn_then ?_
  refine w_seq ?_
  refine w_block ?_
  refine w_seq ?_
  refine w_reg ?_
  refine wl_mv (.tmp 0) (pt t 0) (fun _ => rfl) rfl rfl ?_
  refine wl_call 29 [(.tmp 8)] _ [pt t 0] (.bool true) rfl rfl (fun _ _ => by kernel_rfl) (made_n hS) rfl ?_
  intro w1 hq
  replace hS := hS.mo hq
  replace hM := hM.mo hq
  replace M := M.trans hq
  clear hq
  refine wl_un (fun v => Op.unary .not v) (.tmp 9) (.bool true) (.bool false) (fun _ => rfl) rfl (by kernel_rfl) rfl ?_
  refine wl_mv (.tmp 10) (.bool false) (fun _ => rfl) rfl rfl ?_
  refine w_nil ?_
  refine xn_then ?_
  refine w_condF rfl ?_
  refine w_seq ?_
  refine w_reg ?_
  refine wl_mv (.tmp 2) (.int .i64 (id)) (fun _ => rfl) rfl rfl ?_
  refine wl_bin (fun x y => do eqGuard .lss 2 (.tmp 12) (.const (.int .i64 (1))) x y; binOp .lss 2 x y) (.tmp 12) (.const (.int .i64 (1))) (.int .i64 (id)) (.int .i64 (1)) (.bool false) (fun _ => rfl) rfl rfl (ltL q0 _ _ _) rfl ?_
  refine wl_mv (.tmp 13) (.bool false) (fun _ => rfl) rfl rfl ?_
  refine wl_mv (.tmp 2) (.int .i64 (id)) (fun _ => rfl) rfl rfl ?_
  refine wl_bin (fun x y => do eqGuard .gtr 2 (.tmp 15) (.const (.int .i64 (9007199254740992))) x y; binOp .gtr 2 x y) (.tmp 15) (.const (.int .i64 (9007199254740992))) (.int .i64 (id)) (.int .i64 (9007199254740992)) (.bool true) (fun _ => rfl) rfl rfl (gtL q1 _ _ _) rfl ?_
  refine wl_pick (.tmp 14) (.const (.bool true)) (.tmp 16) false (.bool true) (fun _ => rfl) rfl rfl rfl ?_
  refine wl_mv (.tmp 17) (.bool true) (fun _ => rfl) rfl rfl ?_
  refine w_nil ?_
  refine xn_then ?_
  refine w_condT rfl ?_
  refine w_seq ?_
  refine w_reg ?_
  refine wl_mv (.const (.int .i64 (1))) (.int .i64 (1)) (fun _ => rfl) rfl rfl ?_
  refine w_nil ?_
  refine xn_then ?_
  refine w_ret ?_
  refine xr_blk ?_
  refine xr_then ?_
  exact w_ret1 _ (.int .i64 (1)) rfl rfl ⟨rfl, M⟩
theorem insert_c {tr : T} {at0 id : Int} (h : FT D w t mb tr lk) (hi : -9223372036854775808 ≤ id ∧ id ≤ 9223372036854775807) (q0 : decide (id < 1) = false) (q1 : decide (9007199254740992 < id) = false) (q2 : (adr tr.kv id).isSome = true) : Calls Try.prog 19 #[pt t 0, .int .i64 at0, .int .i64 id] w fun e w' => e = .returned (.int .i64 5) ∧ Mo w w' := by
  have hw : (Lit.int .i64 id).wf = true := WalkArith.wf_i64 ⟨hi.1, hi.2⟩
  obtain ⟨R, root, hS, hC, hR, hn⟩ := h.ts
  have hM := h.om
  refine w_enter 43 Try.func19 Try.ntmps19 rfl rfl ?_
  have M : Mo w w := Mo.refl _
  refine w_seq ?_
  refine w_reg ?_
  refine wl_mv (.const (.int .i64 (0))) (.int .i64 (0)) (fun _ => rfl) rfl rfl ?_
  refine w_nil ?_
  refine xn_then ?_
  refine w_seq ?_
  refine w_block ?_
  refine w_seq ?_
  refine w_reg ?_
  refine wl_mv (.tmp 0) (pt t 0) (fun _ => rfl) rfl rfl ?_
  refine wl_call 29 [(.tmp 8)] _ [pt t 0] (.bool true) rfl rfl (fun _ _ => by kernel_rfl) (made_n hS) rfl ?_
  intro w1 hq
  replace hS := hS.mo hq
  replace hM := hM.mo hq
  replace M := M.trans hq
  clear hq
  refine wl_un (fun v => Op.unary .not v) (.tmp 9) (.bool true) (.bool false) (fun _ => rfl) rfl (by kernel_rfl) rfl ?_
  refine wl_mv (.tmp 10) (.bool false) (fun _ => rfl) rfl rfl ?_
  refine w_nil ?_
  refine xn_then ?_
  refine w_condF rfl ?_
  refine w_seq ?_
  refine w_reg ?_
  refine wl_mv (.tmp 2) (.int .i64 (id)) (fun _ => rfl) rfl rfl ?_
  refine wl_bin (fun x y => do eqGuard .lss 2 (.tmp 12) (.const (.int .i64 (1))) x y; binOp .lss 2 x y) (.tmp 12) (.const (.int .i64 (1))) (.int .i64 (id)) (.int .i64 (1)) (.bool false) (fun _ => rfl) rfl rfl (ltL q0 _ _ _) rfl ?_
  refine wl_mv (.tmp 13) (.bool false) (fun _ => rfl) rfl rfl ?_
  refine wl_mv (.tmp 2) (.int .i64 (id)) (fun _ => rfl) rfl rfl ?_
  refine wl_bin (fun x y => do eqGuard .gtr 2 (.tmp 15) (.const (.int .i64 (9007199254740992))) x y; binOp .gtr 2 x y) (.tmp 15) (.const (.int .i64 (9007199254740992))) (.int .i64 (id)) (.int .i64 (9007199254740992)) (.bool false) (fun _ => rfl) rfl rfl (gtL q1 _ _ _) rfl ?_
  refine wl_pick (.tmp 14) (.const (.bool true)) (.tmp 16) false (.bool false) (fun _ => rfl) rfl rfl rfl ?_
  refine wl_mv (.tmp 17) (.bool false) (fun _ => rfl) rfl rfl ?_
  refine w_nil ?_
  refine xn_then ?_
  refine w_condF rfl ?_
  refine w_seq ?_
  refine w_reg ?_
  refine wl_mv (.tmp 0) (pt t 0) (fun _ => rfl) rfl rfl ?_
  refine wl_nc (.tmp 19) t 0 rfl rfl rfl ?_
  refine wl_un (fun v => Instr.fieldAt 59 v 1) (.tmp 20) (pt t 0) (pt t 1) (fun _ => rfl) rfl (by kernel_rfl) rfl ?_
  refine wl_load 57 (.tmp 21) (pt t 1) (.map (some mb)) rfl rfl (run_one hS.tr 57 1 rfl Try.underlying57 rfl) rfl ?_
  refine wl_mv (.tmp 2) (.int .i64 (id)) (fun _ => rfl) rfl rfl ?_
  refine wl_bin (fun x y => Instr.lookup 57 x y false) (.tmp 22) (.tmp 23) (.map (some mb)) (.int .i64 (id)) (pp (adr tr.kv id)) (fun _ => rfl) rfl rfl (hM.look hw) rfl ?_
  refine wl_bin (fun x y => do eqGuard .neq 56 (.tmp 24) (.const (.pointer none)) x y; binOp .neq 56 x y) (.tmp 24) (.const (.pointer none)) (pp (adr tr.kv id)) (pp none) (.bool true) (fun _ => rfl) rfl rfl (ne56b q2 _ _ _) rfl ?_
  refine wl_mv (.tmp 25) (.bool true) (fun _ => rfl) rfl rfl ?_
  refine w_nil ?_
  refine xn_then ?_
  refine w_condT rfl ?_
  refine w_seq ?_
  refine w_reg ?_
  refine wl_mv (.const (.int .i64 (5))) (.int .i64 (5)) (fun _ => rfl) rfl rfl ?_
  refine w_nil ?_
  refine xn_then ?_
  refine w_ret ?_
  refine xr_blk ?_
  refine xr_then ?_
  exact w_ret1 _ (.int .i64 (5)) rfl rfl ⟨rfl, M⟩
theorem insert_d {tr : T} {at0 id : Int} (h : FT D w t mb tr lk) (hi : -9223372036854775808 ≤ id ∧ id ≤ 9223372036854775807) (q0 : decide (id < 1) = false) (q1 : decide (9007199254740992 < id) = false) (q2 : (adr tr.kv id).isSome = false) (q3 : decide (1024 ≤ (tr.kv.length : Int)) = true) : Calls Try.prog 19 #[pt t 0, .int .i64 at0, .int .i64 id] w fun e w' => e = .returned (.int .i64 6) ∧ Mo w w' := by
  have hw : (Lit.int .i64 id).wf = true := WalkArith.wf_i64 ⟨hi.1, hi.2⟩
  obtain ⟨R, root, hS, hC, hR, hn⟩ := h.ts
  have hM := h.om
  refine w_enter 43 Try.func19 Try.ntmps19 rfl rfl ?_
  have M : Mo w w := Mo.refl _
  refine w_seq ?_
  refine w_reg ?_
  refine wl_mv (.const (.int .i64 (0))) (.int .i64 (0)) (fun _ => rfl) rfl rfl ?_
  refine w_nil ?_
  refine xn_then ?_
  refine w_seq ?_
  refine w_block ?_
  refine w_seq ?_
  refine w_reg ?_
  refine wl_mv (.tmp 0) (pt t 0) (fun _ => rfl) rfl rfl ?_
  refine wl_call 29 [(.tmp 8)] _ [pt t 0] (.bool true) rfl rfl (fun _ _ => by kernel_rfl) (made_n hS) rfl ?_
  intro w1 hq
  replace hS := hS.mo hq
  replace hM := hM.mo hq
  replace M := M.trans hq
  clear hq
  refine wl_un (fun v => Op.unary .not v) (.tmp 9) (.bool true) (.bool false) (fun _ => rfl) rfl (by kernel_rfl) rfl ?_
  refine wl_mv (.tmp 10) (.bool false) (fun _ => rfl) rfl rfl ?_
  refine w_nil ?_
  refine xn_then ?_
  refine w_condF rfl ?_
  refine w_seq ?_
  refine w_reg ?_
  refine wl_mv (.tmp 2) (.int .i64 (id)) (fun _ => rfl) rfl rfl ?_
  refine wl_bin (fun x y => do eqGuard .lss 2 (.tmp 12) (.const (.int .i64 (1))) x y; binOp .lss 2 x y) (.tmp 12) (.const (.int .i64 (1))) (.int .i64 (id)) (.int .i64 (1)) (.bool false) (fun _ => rfl) rfl rfl (ltL q0 _ _ _) rfl ?_
  refine wl_mv (.tmp 13) (.bool false) (fun _ => rfl) rfl rfl ?_
  refine wl_mv (.tmp 2) (.int .i64 (id)) (fun _ => rfl) rfl rfl ?_
  refine wl_bin (fun x y => do eqGuard .gtr 2 (.tmp 15) (.const (.int .i64 (9007199254740992))) x y; binOp .gtr 2 x y) (.tmp 15) (.const (.int .i64 (9007199254740992))) (.int .i64 (id)) (.int .i64 (9007199254740992)) (.bool false) (fun _ => rfl) rfl rfl (gtL q1 _ _ _) rfl ?_
  refine wl_pick (.tmp 14) (.const (.bool true)) (.tmp 16) false (.bool false) (fun _ => rfl) rfl rfl rfl ?_
  refine wl_mv (.tmp 17) (.bool false) (fun _ => rfl) rfl rfl ?_
  refine w_nil ?_
  refine xn_then ?_
  refine w_condF rfl ?_
  refine w_seq ?_
  refine w_reg ?_
  refine wl_mv (.tmp 0) (pt t 0) (fun _ => rfl) rfl rfl ?_
  refine wl_nc (.tmp 19) t 0 rfl rfl rfl ?_
  refine wl_un (fun v => Instr.fieldAt 59 v 1) (.tmp 20) (pt t 0) (pt t 1) (fun _ => rfl) rfl (by kernel_rfl) rfl ?_
  refine wl_load 57 (.tmp 21) (pt t 1) (.map (some mb)) rfl rfl (run_one hS.tr 57 1 rfl Try.underlying57 rfl) rfl ?_
  refine wl_mv (.tmp 2) (.int .i64 (id)) (fun _ => rfl) rfl rfl ?_
  refine wl_bin (fun x y => Instr.lookup 57 x y false) (.tmp 22) (.tmp 23) (.map (some mb)) (.int .i64 (id)) (pp (adr tr.kv id)) (fun _ => rfl) rfl rfl (hM.look hw) rfl ?_
  refine wl_bin (fun x y => do eqGuard .neq 56 (.tmp 24) (.const (.pointer none)) x y; binOp .neq 56 x y) (.tmp 24) (.const (.pointer none)) (pp (adr tr.kv id)) (pp none) (.bool false) (fun _ => rfl) rfl rfl (ne56b q2 _ _ _) rfl ?_
  refine wl_mv (.tmp 25) (.bool false) (fun _ => rfl) rfl rfl ?_
  refine w_nil ?_
  refine xn_then ?_
  refine w_condF rfl ?_
  refine w_seq ?_
  refine w_reg ?_
  refine wl_mv (.tmp 0) (pt t 0) (fun _ => rfl) rfl rfl ?_
  refine wl_call 15 [(.tmp 27)] _ [pt t 0] (.int .i64 ((tr.kv.length : Int))) rfl rfl (fun _ _ => by kernel_rfl) (len_n hS hM) rfl ?_
  intro w2 hq
  replace hS := hS.mo hq
  replace hM := hM.mo hq
  replace M := M.trans hq
  clear hq
  refine wl_bin (fun x y => do eqGuard .geq 3 (.tmp 28) (.const (.int .i64 (1024))) x y; binOp .geq 3 x y) (.tmp 28) (.const (.int .i64 (1024))) (.int .i64 ((tr.kv.length : Int))) (.int .i64 (1024)) (.bool true) (fun _ => rfl) rfl rfl (geI q3 _ _ _) rfl ?_
  refine wl_mv (.tmp 29) (.bool true) (fun _ => rfl) rfl rfl ?_
  refine w_nil ?_
  refine xn_then ?_
  refine w_condT rfl ?_
  refine w_seq ?_
  refine w_reg ?_
  refine wl_mv (.const (.int .i64 (6))) (.int .i64 (6)) (fun _ => rfl) rfl rfl ?_
  refine w_nil ?_
  refine xn_then ?_
  refine w_ret ?_
  refine xr_blk ?_
  refine xr_then ?_
  exact w_ret1 _ (.int .i64 (6)) rfl rfl ⟨rfl, M⟩
theorem insert_e {tr : T} {at0 id : Int} (h : FT D w t mb tr lk) (hi : -9223372036854775808 ≤ id ∧ id ≤ 9223372036854775807) (q0 : decide (id < 1) = false) (q1 : decide (9007199254740992 < id) = false) (q2 : (adr tr.kv id).isSome = false) (q3 : decide (1024 ≤ (tr.kv.length : Int)) = false) (q4 : decide (at0 < 0) = true) : Calls Try.prog 19 #[pt t 0, .int .i64 at0, .int .i64 id] w fun e w' => e = .returned (.int .i64 1) ∧ Mo w w' := by
  have hw : (Lit.int .i64 id).wf = true := WalkArith.wf_i64 ⟨hi.1, hi.2⟩
  obtain ⟨R, root, hS, hC, hR, hn⟩ := h.ts
  have hM := h.om
  refine w_enter 43 Try.func19 Try.ntmps19 rfl rfl ?_
  have M : Mo w w := Mo.refl _
  refine w_seq ?_
  refine w_reg ?_
  refine wl_mv (.const (.int .i64 (0))) (.int .i64 (0)) (fun _ => rfl) rfl rfl ?_
  refine w_nil ?_
  refine xn_then ?_
  refine w_seq ?_
  refine w_block ?_
  refine w_seq ?_
  refine w_reg ?_
  refine wl_mv (.tmp 0) (pt t 0) (fun _ => rfl) rfl rfl ?_
  refine wl_call 29 [(.tmp 8)] _ [pt t 0] (.bool true) rfl rfl (fun _ _ => by kernel_rfl) (made_n hS) rfl ?_
  intro w1 hq
  replace hS := hS.mo hq
  replace hM := hM.mo hq
  replace M := M.trans hq
  clear hq
  refine wl_un (fun v => Op.unary .not v) (.tmp 9) (.bool true) (.bool false) (fun _ => rfl) rfl (by kernel_rfl) rfl ?_
  refine wl_mv (.tmp 10) (.bool false) (fun _ => rfl) rfl rfl ?_
  refine w_nil ?_
  refine xn_then ?_
  refine w_condF rfl ?_
  refine w_seq ?_
  refine w_reg ?_
  refine wl_mv (.tmp 2) (.int .i64 (id)) (fun _ => rfl) rfl rfl ?_
  refine wl_bin (fun x y => do eqGuard .lss 2 (.tmp 12) (.const (.int .i64 (1))) x y; binOp .lss 2 x y) (.tmp 12) (.const (.int .i64 (1))) (.int .i64 (id)) (.int .i64 (1)) (.bool false) (fun _ => rfl) rfl rfl (ltL q0 _ _ _) rfl ?_
  refine wl_mv (.tmp 13) (.bool false) (fun _ => rfl) rfl rfl ?_
  refine wl_mv (.tmp 2) (.int .i64 (id)) (fun _ => rfl) rfl rfl ?_
  refine wl_bin (fun x y => do eqGuard .gtr 2 (.tmp 15) (.const (.int .i64 (9007199254740992))) x y; binOp .gtr 2 x y) (.tmp 15) (.const (.int .i64 (9007199254740992))) (.int .i64 (id)) (.int .i64 (9007199254740992)) (.bool false) (fun _ => rfl) rfl rfl (gtL q1 _ _ _) rfl ?_
  refine wl_pick (.tmp 14) (.const (.bool true)) (.tmp 16) false (.bool false) (fun _ => rfl) rfl rfl rfl ?_
  refine wl_mv (.tmp 17) (.bool false) (fun _ => rfl) rfl rfl ?_
  refine w_nil ?_
  refine xn_then ?_
  refine w_condF rfl ?_
  refine w_seq ?_
  refine w_reg ?_
  refine wl_mv (.tmp 0) (pt t 0) (fun _ => rfl) rfl rfl ?_
  refine wl_nc (.tmp 19) t 0 rfl rfl rfl ?_
  refine wl_un (fun v => Instr.fieldAt 59 v 1) (.tmp 20) (pt t 0) (pt t 1) (fun _ => rfl) rfl (by kernel_rfl) rfl ?_
  refine wl_load 57 (.tmp 21) (pt t 1) (.map (some mb)) rfl rfl (run_one hS.tr 57 1 rfl Try.underlying57 rfl) rfl ?_
  refine wl_mv (.tmp 2) (.int .i64 (id)) (fun _ => rfl) rfl rfl ?_
  refine wl_bin (fun x y => Instr.lookup 57 x y false) (.tmp 22) (.tmp 23) (.map (some mb)) (.int .i64 (id)) (pp (adr tr.kv id)) (fun _ => rfl) rfl rfl (hM.look hw) rfl ?_
  refine wl_bin (fun x y => do eqGuard .neq 56 (.tmp 24) (.const (.pointer none)) x y; binOp .neq 56 x y) (.tmp 24) (.const (.pointer none)) (pp (adr tr.kv id)) (pp none) (.bool false) (fun _ => rfl) rfl rfl (ne56b q2 _ _ _) rfl ?_
  refine wl_mv (.tmp 25) (.bool false) (fun _ => rfl) rfl rfl ?_
  refine w_nil ?_
  refine xn_then ?_
  refine w_condF rfl ?_
  refine w_seq ?_
  refine w_reg ?_
  refine wl_mv (.tmp 0) (pt t 0) (fun _ => rfl) rfl rfl ?_
  refine wl_call 15 [(.tmp 27)] _ [pt t 0] (.int .i64 ((tr.kv.length : Int))) rfl rfl (fun _ _ => by kernel_rfl) (len_n hS hM) rfl ?_
  intro w2 hq
  replace hS := hS.mo hq
  replace hM := hM.mo hq
  replace M := M.trans hq
  clear hq
  refine wl_bin (fun x y => do eqGuard .geq 3 (.tmp 28) (.const (.int .i64 (1024))) x y; binOp .geq 3 x y) (.tmp 28) (.const (.int .i64 (1024))) (.int .i64 ((tr.kv.length : Int))) (.int .i64 (1024)) (.bool false) (fun _ => rfl) rfl rfl (geI q3 _ _ _) rfl ?_
  refine wl_mv (.tmp 29) (.bool false) (fun _ => rfl) rfl rfl ?_
  refine w_nil ?_
  refine xn_then ?_
  refine w_condF rfl ?_
  refine w_seq ?_
  refine w_reg ?_
  refine wl_mv (.tmp 1) (.int .i64 (at0)) (fun _ => rfl) rfl rfl ?_
  refine wl_bin (fun x y => do eqGuard .lss 3 (.tmp 31) (.const (.int .i64 (0))) x y; binOp .lss 3 x y) (.tmp 31) (.const (.int .i64 (0))) (.int .i64 (at0)) (.int .i64 (0)) (.bool true) (fun _ => rfl) rfl rfl (ltI q4 _ _ _) rfl ?_
  refine wl_mv (.tmp 32) (.bool true) (fun _ => rfl) rfl rfl ?_
  refine wl_skip rfl ?_
  refine wl_skip rfl ?_
  refine wl_skip rfl ?_
  refine wl_skip rfl ?_
  refine wl_pick (.tmp 33) (.const (.bool true)) (.tmp 37) true (.bool true) (fun _ => rfl) rfl rfl rfl ?_
  refine wl_mv (.tmp 38) (.bool true) (fun _ => rfl) rfl rfl ?_
  refine w_nil ?_
  refine xn_then ?_
  refine w_condT rfl ?_
  refine w_seq ?_
  refine w_reg ?_
  refine wl_mv (.const (.int .i64 (1))) (.int .i64 (1)) (fun _ => rfl) rfl rfl ?_
  refine w_nil ?_
  refine xn_then ?_
  refine w_ret ?_
  refine xr_blk ?_
  refine xr_then ?_
  exact w_ret1 _ (.int .i64 (1)) rfl rfl ⟨rfl, M⟩
theorem insert_f {tr : T} {at0 id : Int} (h : FT D w t mb tr lk) (hi : -9223372036854775808 ≤ id ∧ id ≤ 9223372036854775807) (q0 : decide (id < 1) = false) (q1 : decide (9007199254740992 < id) = false) (q2 : (adr tr.kv id).isSome = false) (q3 : decide (1024 ≤ (tr.kv.length : Int)) = false) (q4 : decide (at0 < 0) = false) (q5 : decide ((tr.kv.length : Int) < at0) = true) : Calls Try.prog 19 #[pt t 0, .int .i64 at0, .int .i64 id] w fun e w' => e = .returned (.int .i64 1) ∧ Mo w w' := by
  have hw : (Lit.int .i64 id).wf = true := WalkArith.wf_i64 ⟨hi.1, hi.2⟩
  obtain ⟨R, root, hS, hC, hR, hn⟩ := h.ts
  have hM := h.om
  refine w_enter 43 Try.func19 Try.ntmps19 rfl rfl ?_
  have M : Mo w w := Mo.refl _
  refine w_seq ?_
  refine w_reg ?_
  refine wl_mv (.const (.int .i64 (0))) (.int .i64 (0)) (fun _ => rfl) rfl rfl ?_
  refine w_nil ?_
  refine xn_then ?_
  refine w_seq ?_
  refine w_block ?_
  refine w_seq ?_
  refine w_reg ?_
  refine wl_mv (.tmp 0) (pt t 0) (fun _ => rfl) rfl rfl ?_
  refine wl_call 29 [(.tmp 8)] _ [pt t 0] (.bool true) rfl rfl (fun _ _ => by kernel_rfl) (made_n hS) rfl ?_
  intro w1 hq
  replace hS := hS.mo hq
  replace hM := hM.mo hq
  replace M := M.trans hq
  clear hq
  refine wl_un (fun v => Op.unary .not v) (.tmp 9) (.bool true) (.bool false) (fun _ => rfl) rfl (by kernel_rfl) rfl ?_
  refine wl_mv (.tmp 10) (.bool false) (fun _ => rfl) rfl rfl ?_
  refine w_nil ?_
  refine xn_then ?_
  refine w_condF rfl ?_
  refine w_seq ?_
  refine w_reg ?_
  refine wl_mv (.tmp 2) (.int .i64 (id)) (fun _ => rfl) rfl rfl ?_
  refine wl_bin (fun x y => do eqGuard .lss 2 (.tmp 12) (.const (.int .i64 (1))) x y; binOp .lss 2 x y) (.tmp 12) (.const (.int .i64 (1))) (.int .i64 (id)) (.int .i64 (1)) (.bool false) (fun _ => rfl) rfl rfl (ltL q0 _ _ _) rfl ?_
  refine wl_mv (.tmp 13) (.bool false) (fun _ => rfl) rfl rfl ?_
  refine wl_mv (.tmp 2) (.int .i64 (id)) (fun _ => rfl) rfl rfl ?_
  refine wl_bin (fun x y => do eqGuard .gtr 2 (.tmp 15) (.const (.int .i64 (9007199254740992))) x y; binOp .gtr 2 x y) (.tmp 15) (.const (.int .i64 (9007199254740992))) (.int .i64 (id)) (.int .i64 (9007199254740992)) (.bool false) (fun _ => rfl) rfl rfl (gtL q1 _ _ _) rfl ?_
  refine wl_pick (.tmp 14) (.const (.bool true)) (.tmp 16) false (.bool false) (fun _ => rfl) rfl rfl rfl ?_
  refine wl_mv (.tmp 17) (.bool false) (fun _ => rfl) rfl rfl ?_
  refine w_nil ?_
  refine xn_then ?_
  refine w_condF rfl ?_
  refine w_seq ?_
  refine w_reg ?_
  refine wl_mv (.tmp 0) (pt t 0) (fun _ => rfl) rfl rfl ?_
  refine wl_nc (.tmp 19) t 0 rfl rfl rfl ?_
  refine wl_un (fun v => Instr.fieldAt 59 v 1) (.tmp 20) (pt t 0) (pt t 1) (fun _ => rfl) rfl (by kernel_rfl) rfl ?_
  refine wl_load 57 (.tmp 21) (pt t 1) (.map (some mb)) rfl rfl (run_one hS.tr 57 1 rfl Try.underlying57 rfl) rfl ?_
  refine wl_mv (.tmp 2) (.int .i64 (id)) (fun _ => rfl) rfl rfl ?_
  refine wl_bin (fun x y => Instr.lookup 57 x y false) (.tmp 22) (.tmp 23) (.map (some mb)) (.int .i64 (id)) (pp (adr tr.kv id)) (fun _ => rfl) rfl rfl (hM.look hw) rfl ?_
  refine wl_bin (fun x y => do eqGuard .neq 56 (.tmp 24) (.const (.pointer none)) x y; binOp .neq 56 x y) (.tmp 24) (.const (.pointer none)) (pp (adr tr.kv id)) (pp none) (.bool false) (fun _ => rfl) rfl rfl (ne56b q2 _ _ _) rfl ?_
  refine wl_mv (.tmp 25) (.bool false) (fun _ => rfl) rfl rfl ?_
  refine w_nil ?_
  refine xn_then ?_
  refine w_condF rfl ?_
  refine w_seq ?_
  refine w_reg ?_
  refine wl_mv (.tmp 0) (pt t 0) (fun _ => rfl) rfl rfl ?_
  refine wl_call 15 [(.tmp 27)] _ [pt t 0] (.int .i64 ((tr.kv.length : Int))) rfl rfl (fun _ _ => by kernel_rfl) (len_n hS hM) rfl ?_
  intro w2 hq
  replace hS := hS.mo hq
  replace hM := hM.mo hq
  replace M := M.trans hq
  clear hq
  refine wl_bin (fun x y => do eqGuard .geq 3 (.tmp 28) (.const (.int .i64 (1024))) x y; binOp .geq 3 x y) (.tmp 28) (.const (.int .i64 (1024))) (.int .i64 ((tr.kv.length : Int))) (.int .i64 (1024)) (.bool false) (fun _ => rfl) rfl rfl (geI q3 _ _ _) rfl ?_
  refine wl_mv (.tmp 29) (.bool false) (fun _ => rfl) rfl rfl ?_
  refine w_nil ?_
  refine xn_then ?_
  refine w_condF rfl ?_
  refine w_seq ?_
  refine w_reg ?_
  refine wl_mv (.tmp 1) (.int .i64 (at0)) (fun _ => rfl) rfl rfl ?_
  refine wl_bin (fun x y => do eqGuard .lss 3 (.tmp 31) (.const (.int .i64 (0))) x y; binOp .lss 3 x y) (.tmp 31) (.const (.int .i64 (0))) (.int .i64 (at0)) (.int .i64 (0)) (.bool false) (fun _ => rfl) rfl rfl (ltI q4 _ _ _) rfl ?_
  refine wl_mv (.tmp 32) (.bool false) (fun _ => rfl) rfl rfl ?_
  refine wl_mv (.tmp 1) (.int .i64 (at0)) (fun _ => rfl) rfl rfl ?_
  refine wl_mv (.tmp 0) (pt t 0) (fun _ => rfl) rfl rfl ?_
  refine wl_call 15 [(.tmp 35)] _ [pt t 0] (.int .i64 ((tr.kv.length : Int))) rfl rfl (fun _ _ => by kernel_rfl) (len_n hS hM) rfl ?_
  intro w3 hq
  replace hS := hS.mo hq
  replace hM := hM.mo hq
  replace M := M.trans hq
  clear hq
  refine wl_bin (fun x y => do eqGuard .gtr 3 (.tmp 34) (.tmp 36) x y; binOp .gtr 3 x y) (.tmp 34) (.tmp 36) (.int .i64 (at0)) (.int .i64 ((tr.kv.length : Int))) (.bool true) (fun _ => rfl) rfl rfl (gtI q5 _ _ _) rfl ?_
  refine wl_pick (.tmp 33) (.const (.bool true)) (.tmp 37) false (.bool true) (fun _ => rfl) rfl rfl rfl ?_
  refine wl_mv (.tmp 38) (.bool true) (fun _ => rfl) rfl rfl ?_
  refine w_nil ?_
  refine xn_then ?_
  refine w_condT rfl ?_
  refine w_seq ?_
  refine w_reg ?_
  refine wl_mv (.const (.int .i64 (1))) (.int .i64 (1)) (fun _ => rfl) rfl rfl ?_
  refine w_nil ?_
  refine xn_then ?_
  refine w_ret ?_
  refine xr_blk ?_
  refine xr_then ?_
  exact w_ret1 _ (.int .i64 (1)) rfl rfl ⟨rfl, M⟩
theorem insert_ok {tr : T} {at0 id : Int} (h : FT D w t mb tr lk) (hi : -9223372036854775808 ≤ id ∧ id ≤ 9223372036854775807) (q0 : decide (id < 1) = false) (q1 : decide (9007199254740992 < id) = false) (q2 : (adr tr.kv id).isSome = false) (q3 : decide (1024 ≤ (tr.kv.length : Int)) = false) (q4 : decide (at0 < 0) = false) (q5 : decide ((tr.kv.length : Int) < at0) = false) (hlk : lk ≤ 3000000000000000000) : Calls Try.prog 19 #[pt t 0, .int .i64 at0, .int .i64 id] w fun e w' => e = .returned (.int .i64 0) ∧ ∃ kn tr' lk', Ins tr at0 id kn tr' ∧ FT (fun j => D j ∨ j = kn) w' t mb tr' lk' ∧ w.heap.size ≤ kn ∧ lk < lk' ∧ lk' ≤ lk + 10 * tr.ht + 1 ∧ Mk (fun j => D j ∨ j = mb) w w' := by
  have hw : (Lit.int .i64 id).wf = true := WalkArith.wf_i64 ⟨hi.1, hi.2⟩
  obtain ⟨R, root, hS, hC, hR, hn⟩ := h.ts
  have hM := h.om
  have hkl := tr.kv_len
  have hid : id ∉ tr.ids := fun m => by rw [← T.kv_ids] at m; rw [adr_is.2 m] at q2; cases q2
  refine w_enter 43 Try.func19 Try.ntmps19 rfl rfl ?_
  have M : Mk (fun j => D j ∨ j = mb) w w := Mk.refl _ _
  refine w_seq ?_
  refine w_reg ?_
  refine wl_mv (.const (.int .i64 (0))) (.int .i64 (0)) (fun _ => rfl) rfl rfl ?_
  refine w_nil ?_
  refine xn_then ?_
  refine w_seq ?_
  refine w_block ?_
  refine w_seq ?_
  refine w_reg ?_
  refine wl_mv (.tmp 0) (pt t 0) (fun _ => rfl) rfl rfl ?_
  refine wl_call 29 [(.tmp 8)] _ [pt t 0] (.bool true) rfl rfl (fun _ _ => by kernel_rfl) (made_n hS) rfl ?_
  intro w1 hq
  replace hS := hS.mo hq
  replace hM := hM.mo hq
  replace M := M.trans hq
  clear hq
  refine wl_un (fun v => Op.unary .not v) (.tmp 9) (.bool true) (.bool false) (fun _ => rfl) rfl (by kernel_rfl) rfl ?_
  refine wl_mv (.tmp 10) (.bool false) (fun _ => rfl) rfl rfl ?_
  refine w_nil ?_
  refine xn_then ?_
  refine w_condF rfl ?_
  refine w_seq ?_
  refine w_reg ?_
  refine wl_mv (.tmp 2) (.int .i64 (id)) (fun _ => rfl) rfl rfl ?_
  refine wl_bin (fun x y => do eqGuard .lss 2 (.tmp 12) (.const (.int .i64 (1))) x y; binOp .lss 2 x y) (.tmp 12) (.const (.int .i64 (1))) (.int .i64 (id)) (.int .i64 (1)) (.bool false) (fun _ => rfl) rfl rfl (ltL q0 _ _ _) rfl ?_
  refine wl_mv (.tmp 13) (.bool false) (fun _ => rfl) rfl rfl ?_
  refine wl_mv (.tmp 2) (.int .i64 (id)) (fun _ => rfl) rfl rfl ?_
  refine wl_bin (fun x y => do eqGuard .gtr 2 (.tmp 15) (.const (.int .i64 (9007199254740992))) x y; binOp .gtr 2 x y) (.tmp 15) (.const (.int .i64 (9007199254740992))) (.int .i64 (id)) (.int .i64 (9007199254740992)) (.bool false) (fun _ => rfl) rfl rfl (gtL q1 _ _ _) rfl ?_
  refine wl_pick (.tmp 14) (.const (.bool true)) (.tmp 16) false (.bool false) (fun _ => rfl) rfl rfl rfl ?_
  refine wl_mv (.tmp 17) (.bool false) (fun _ => rfl) rfl rfl ?_
  refine w_nil ?_
  refine xn_then ?_
  refine w_condF rfl ?_
  refine w_seq ?_
  refine w_reg ?_
  refine wl_mv (.tmp 0) (pt t 0) (fun _ => rfl) rfl rfl ?_
  refine wl_nc (.tmp 19) t 0 rfl rfl rfl ?_
  refine wl_un (fun v => Instr.fieldAt 59 v 1) (.tmp 20) (pt t 0) (pt t 1) (fun _ => rfl) rfl (by kernel_rfl) rfl ?_
  refine wl_load 57 (.tmp 21) (pt t 1) (.map (some mb)) rfl rfl (run_one hS.tr 57 1 rfl Try.underlying57 rfl) rfl ?_
  refine wl_mv (.tmp 2) (.int .i64 (id)) (fun _ => rfl) rfl rfl ?_
  refine wl_bin (fun x y => Instr.lookup 57 x y false) (.tmp 22) (.tmp 23) (.map (some mb)) (.int .i64 (id)) (pp (adr tr.kv id)) (fun _ => rfl) rfl rfl (hM.look hw) rfl ?_
  refine wl_bin (fun x y => do eqGuard .neq 56 (.tmp 24) (.const (.pointer none)) x y; binOp .neq 56 x y) (.tmp 24) (.const (.pointer none)) (pp (adr tr.kv id)) (pp none) (.bool false) (fun _ => rfl) rfl rfl (ne56b q2 _ _ _) rfl ?_
  refine wl_mv (.tmp 25) (.bool false) (fun _ => rfl) rfl rfl ?_
  refine w_nil ?_
  refine xn_then ?_
  refine w_condF rfl ?_
  refine w_seq ?_
  refine w_reg ?_
  refine wl_mv (.tmp 0) (pt t 0) (fun _ => rfl) rfl rfl ?_
  refine wl_call 15 [(.tmp 27)] _ [pt t 0] (.int .i64 ((tr.kv.length : Int))) rfl rfl (fun _ _ => by kernel_rfl) (len_n hS hM) rfl ?_
  intro w2 hq
  replace hS := hS.mo hq
  replace hM := hM.mo hq
  replace M := M.trans hq
  clear hq
  refine wl_bin (fun x y => do eqGuard .geq 3 (.tmp 28) (.const (.int .i64 (1024))) x y; binOp .geq 3 x y) (.tmp 28) (.const (.int .i64 (1024))) (.int .i64 ((tr.kv.length : Int))) (.int .i64 (1024)) (.bool false) (fun _ => rfl) rfl rfl (geI q3 _ _ _) rfl ?_
  refine wl_mv (.tmp 29) (.bool false) (fun _ => rfl) rfl rfl ?_
  refine w_nil ?_
  refine xn_then ?_
  refine w_condF rfl ?_
  refine w_seq ?_
  refine w_reg ?_
  refine wl_mv (.tmp 1) (.int .i64 (at0)) (fun _ => rfl) rfl rfl ?_
  refine wl_bin (fun x y => do eqGuard .lss 3 (.tmp 31) (.const (.int .i64 (0))) x y; binOp .lss 3 x y) (.tmp 31) (.const (.int .i64 (0))) (.int .i64 (at0)) (.int .i64 (0)) (.bool false) (fun _ => rfl) rfl rfl (ltI q4 _ _ _) rfl ?_
  refine wl_mv (.tmp 32) (.bool false) (fun _ => rfl) rfl rfl ?_
  refine wl_mv (.tmp 1) (.int .i64 (at0)) (fun _ => rfl) rfl rfl ?_
  refine wl_mv (.tmp 0) (pt t 0) (fun _ => rfl) rfl rfl ?_
  refine wl_call 15 [(.tmp 35)] _ [pt t 0] (.int .i64 ((tr.kv.length : Int))) rfl rfl (fun _ _ => by kernel_rfl) (len_n hS hM) rfl ?_
  intro w3 hq
  replace hS := hS.mo hq
  replace hM := hM.mo hq
  replace M := M.trans hq
  clear hq
  refine wl_bin (fun x y => do eqGuard .gtr 3 (.tmp 34) (.tmp 36) x y; binOp .gtr 3 x y) (.tmp 34) (.tmp 36) (.int .i64 (at0)) (.int .i64 ((tr.kv.length : Int))) (.bool false) (fun _ => rfl) rfl rfl (gtI q5 _ _ _) rfl ?_
  refine wl_pick (.tmp 33) (.const (.bool true)) (.tmp 37) false (.bool false) (fun _ => rfl) rfl rfl rfl ?_
  refine wl_mv (.tmp 38) (.bool false) (fun _ => rfl) rfl rfl ?_
  refine w_nil ?_
  refine xn_then ?_
  refine w_condF rfl ?_
  refine w_skip ?_
  refine xn_blk ?_
  refine xn_then ?_
  refine w_seq ?_
  refine w_reg ?_
  refine wl_mv (.tmp 0) (pt t 0) (fun _ => rfl) rfl rfl ?_
  refine wl_mv (.tmp 1) (.int .i64 (at0)) (fun _ => rfl) rfl rfl ?_
  refine wl_mv (.tmp 2) (.int .i64 (id)) (fun _ => rfl) rfl rfl ?_
  refine wl_callg 33 [(.tmp 39), (.tmp 40), (.tmp 41)] _ [pt t 0, .int .i64 (at0), .int .i64 (id)] (.tuple #[]) rfl rfl (fun _ _ => by kernel_rfl) (put_f ⟨⟨R, root, hS, hC, hR, hn⟩, hM, h.ok, h.nd, h.rg, h.le, h.l0⟩ hid (by have := of_decide_eq_false q0; omega) (by have := of_decide_eq_false q1; omega) (by have := of_decide_eq_false q3; omega) (by have := of_decide_eq_false q4; omega) (by have := of_decide_eq_false q5; omega) hlk) rfl ?_
  intro w4 hF
  obtain ⟨kn, tr2, lk2, hI, hF2, hkn, hk1, hk2, hM2⟩ := hF
  replace hkn := Nat.le_trans M.size hkn
  replace M := M.same hM2
  refine w_nil ?_
  refine xn_then ?_
  refine w_seq ?_
  refine w_reg ?_
  refine wl_mv (.const (.int .i64 (0))) (.int .i64 (0)) (fun _ => rfl) rfl rfl ?_
  refine w_nil ?_
  refine xn_then ?_
  refine w_ret ?_
  exact w_ret1 _ (.int .i64 (0)) rfl rfl ⟨rfl, kn, tr2, lk2, hI, hF2, hkn, hk1, hk2, M⟩
end
end Go.Proofs.Ytbmbldloeblbbaa
