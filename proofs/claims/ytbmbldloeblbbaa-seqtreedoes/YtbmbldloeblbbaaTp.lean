/-
  The tree's calls: At, Index, Delete, Move.
-/
import Derived.Test.YtbmbldloeblbbaaTo
namespace Go.Proofs.Ytbmbldloeblbbaa
open Go.RowKit
section
variable {D : Nat → Prop} {w : World} {t mb : Nat} {R : Mp} {root : Option Nat} {lk : Int}
theorem FT.lkd {w' : World} {tr : T} {lk' : Int} (h : FT D w t mb tr lk) (hT : TS D w' t mb [] tr lk') (hM : OM w' mb (adr tr.kv) tr.kv.length) (hl : lk ≤ lk') : FT D w' t mb tr lk' := ⟨hT, hM, h.ok, h.nd, h.rg, h.le, Int.le_trans h.l0 hl⟩
theorem ids_at {C : Cx} {k : Nat} {i s : Int} {l r : T} : (plug C (.n k i s l r)).ids[(l.sz + ix C).toNat]? = some i := by
  have hkv : (plug C (.n k i s l r)).kv = (preC C ++ l.kv) ++ (i, k) :: (r.kv ++ posC C) := by rw [plug_kv]; simp [T.kv]
  have h1 := pre_len C
  have h2 := l.kv_len
  rw [← T.kv_ids, hkv, List.map_append, List.getElem?_append_right (by simp; omega)]
  rw [show (l.sz + ix C).toNat - ((preC C ++ l.kv).map (·.1)).length = 0 by simp; omega]
  rfl
theorem at_a {tr : T} {at0 : Int} (h : FT D w t mb tr lk) (q4 : decide (at0 < 0) = true) : Calls Try.prog 11 #[pt t 0, .int .i64 at0] w fun e w' => e = .returned (.tuple #[.int .i64 0, .bool false]) ∧ Mo w w' := by
  obtain ⟨R, root, hS, hC, hR, hn⟩ := h.ts
  have hM := h.om
  refine w_enter 20 Try.func11 Try.ntmps11 rfl rfl ?_
  have M : Mo w w := Mo.refl _
  refine w_seq ?_
  refine w_reg ?_
  refine wl_mv (.const (.int .i64 (0))) (.int .i64 (0)) (fun _ => rfl) rfl rfl ?_
  refine wl_mv (.const (.bool false)) (.bool false) (fun _ => rfl) rfl rfl ?_
  refine w_nil ?_
  refine xn_then ?_
  refine w_seq ?_
  refine w_seq ?_
  refine w_reg ?_
  refine wl_mv (.tmp 1) (.int .i64 (at0)) (fun _ => rfl) rfl rfl ?_
  refine wl_bin (fun x y => do eqGuard .lss 3 (.tmp 6) (.const (.int .i64 (0))) x y; binOp .lss 3 x y) (.tmp 6) (.const (.int .i64 (0))) (.int .i64 (at0)) (.int .i64 (0)) (.bool true) (fun _ => rfl) rfl rfl (ltI q4 _ _ _) rfl ?_
  refine wl_mv (.tmp 7) (.bool true) (fun _ => rfl) rfl rfl ?_
  refine wl_skip rfl ?_
  refine wl_skip rfl ?_
  refine wl_skip rfl ?_
  refine wl_skip rfl ?_
  refine wl_pick (.tmp 8) (.const (.bool true)) (.tmp 12) true (.bool true) (fun _ => rfl) rfl rfl rfl ?_
  refine w_nil ?_
  refine xn_then ?_
  refine w_condT rfl ?_
  refine w_seq ?_
  refine w_reg ?_
  refine wl_mv (.const (.int .i64 (0))) (.int .i64 (0)) (fun _ => rfl) rfl rfl ?_
  refine wl_mv (.const (.bool false)) (.bool false) (fun _ => rfl) rfl rfl ?_
  refine w_nil ?_
  refine xn_then ?_
  refine w_ret ?_
  refine xr_then ?_
  exact w_ret2 _ _ (.int .i64 (0)) (.bool false) rfl rfl rfl ⟨rfl, M⟩
theorem at_b {tr : T} {at0 : Int} (h : FT D w t mb tr lk) (q4 : decide (at0 < 0) = false) (q6 : decide ((tr.kv.length : Int) ≤ at0) = true) : Calls Try.prog 11 #[pt t 0, .int .i64 at0] w fun e w' => e = .returned (.tuple #[.int .i64 0, .bool false]) ∧ Mo w w' := by
  obtain ⟨R, root, hS, hC, hR, hn⟩ := h.ts
  have hM := h.om
  refine w_enter 20 Try.func11 Try.ntmps11 rfl rfl ?_
  have M : Mo w w := Mo.refl _
  refine w_seq ?_
  refine w_reg ?_
  refine wl_mv (.const (.int .i64 (0))) (.int .i64 (0)) (fun _ => rfl) rfl rfl ?_
  refine wl_mv (.const (.bool false)) (.bool false) (fun _ => rfl) rfl rfl ?_
  refine w_nil ?_
  refine xn_then ?_
  refine w_seq ?_
  refine w_seq ?_
  refine w_reg ?_
  refine wl_mv (.tmp 1) (.int .i64 (at0)) (fun _ => rfl) rfl rfl ?_
  refine wl_bin (fun x y => do eqGuard .lss 3 (.tmp 6) (.const (.int .i64 (0))) x y; binOp .lss 3 x y) (.tmp 6) (.const (.int .i64 (0))) (.int .i64 (at0)) (.int .i64 (0)) (.bool false) (fun _ => rfl) rfl rfl (ltI q4 _ _ _) rfl ?_
  refine wl_mv (.tmp 7) (.bool false) (fun _ => rfl) rfl rfl ?_
  refine wl_mv (.tmp 1) (.int .i64 (at0)) (fun _ => rfl) rfl rfl ?_
  refine wl_mv (.tmp 0) (pt t 0) (fun _ => rfl) rfl rfl ?_
  refine wl_call 15 [(.tmp 10)] _ [pt t 0] (.int .i64 ((tr.kv.length : Int))) rfl rfl (fun _ _ => by kernel_rfl) (len_n hS hM) rfl ?_
  intro w1 hq
  replace hS := hS.mo hq
  replace hM := hM.mo hq
  replace M := M.trans hq
  clear hq
  refine wl_bin (fun x y => do eqGuard .geq 3 (.tmp 9) (.tmp 11) x y; binOp .geq 3 x y) (.tmp 9) (.tmp 11) (.int .i64 (at0)) (.int .i64 ((tr.kv.length : Int))) (.bool true) (fun _ => rfl) rfl rfl (geI q6 _ _ _) rfl ?_
  refine wl_pick (.tmp 8) (.const (.bool true)) (.tmp 12) false (.bool true) (fun _ => rfl) rfl rfl rfl ?_
  refine w_nil ?_
  refine xn_then ?_
  refine w_condT rfl ?_
  refine w_seq ?_
  refine w_reg ?_
  refine wl_mv (.const (.int .i64 (0))) (.int .i64 (0)) (fun _ => rfl) rfl rfl ?_
  refine wl_mv (.const (.bool false)) (.bool false) (fun _ => rfl) rfl rfl ?_
  refine w_nil ?_
  refine xn_then ?_
  refine w_ret ?_
  refine xr_then ?_
  exact w_ret2 _ _ (.int .i64 (0)) (.bool false) rfl rfl rfl ⟨rfl, M⟩
theorem at_ok {tr : T} {at0 : Int} (h : FT D w t mb tr lk) (q4 : decide (at0 < 0) = false) (q6 : decide ((tr.kv.length : Int) ≤ at0) = false) (hlk : lk ≤ 3000000000000000000) : Calls Try.prog 11 #[pt t 0, .int .i64 at0] w fun e w' => ∃ i lk', e = .returned (.tuple #[.int .i64 i, .bool true]) ∧ tr.ids[at0.toNat]? = some i ∧ FT D w' t mb tr lk' ∧ lk ≤ lk' ∧ lk' ≤ lk + 2 * tr.ht ∧ Mk D w w' := by
  obtain ⟨R, root, hS, hC, hR, hn⟩ := h.ts
  have hM := h.om
  have hkl := tr.kv_len
  have hle := h.le
  have hhl := tr.ht_le
  refine w_enter 20 Try.func11 Try.ntmps11 rfl rfl ?_
  have M : Mk D w w := Mk.refl _ _
  refine w_seq ?_
  refine w_reg ?_
  refine wl_mv (.const (.int .i64 (0))) (.int .i64 (0)) (fun _ => rfl) rfl rfl ?_
  refine wl_mv (.const (.bool false)) (.bool false) (fun _ => rfl) rfl rfl ?_
  refine w_nil ?_
  refine xn_then ?_
  refine w_seq ?_
  refine w_seq ?_
  refine w_reg ?_
  refine wl_mv (.tmp 1) (.int .i64 (at0)) (fun _ => rfl) rfl rfl ?_
  refine wl_bin (fun x y => do eqGuard .lss 3 (.tmp 6) (.const (.int .i64 (0))) x y; binOp .lss 3 x y) (.tmp 6) (.const (.int .i64 (0))) (.int .i64 (at0)) (.int .i64 (0)) (.bool false) (fun _ => rfl) rfl rfl (ltI q4 _ _ _) rfl ?_
  refine wl_mv (.tmp 7) (.bool false) (fun _ => rfl) rfl rfl ?_
  refine wl_mv (.tmp 1) (.int .i64 (at0)) (fun _ => rfl) rfl rfl ?_
  refine wl_mv (.tmp 0) (pt t 0) (fun _ => rfl) rfl rfl ?_
  refine wl_call 15 [(.tmp 10)] _ [pt t 0] (.int .i64 ((tr.kv.length : Int))) rfl rfl (fun _ _ => by kernel_rfl) (len_n hS hM) rfl ?_
  intro w1 hq
  replace hS := hS.mo hq
  replace hM := hM.mo hq
  replace M := M.trans hq
  clear hq
  refine wl_bin (fun x y => do eqGuard .geq 3 (.tmp 9) (.tmp 11) x y; binOp .geq 3 x y) (.tmp 9) (.tmp 11) (.int .i64 (at0)) (.int .i64 ((tr.kv.length : Int))) (.bool false) (fun _ => rfl) rfl rfl (geI q6 _ _ _) rfl ?_
  refine wl_pick (.tmp 8) (.const (.bool true)) (.tmp 12) false (.bool false) (fun _ => rfl) rfl rfl rfl ?_
  refine w_nil ?_
  refine xn_then ?_
  refine w_condF rfl ?_
  refine w_skip ?_
  refine xn_then ?_
  refine w_seq ?_
  refine w_reg ?_
  refine wl_mv (.tmp 0) (pt t 0) (fun _ => rfl) rfl rfl ?_
  refine wl_mv (.tmp 1) (.int .i64 (at0)) (fun _ => rfl) rfl rfl ?_
  refine wl_callx 28 [(.tmp 14), (.tmp 15)] _ [pt t 0, .int .i64 (at0)] rfl rfl (fun _ _ => by kernel_rfl) (find_n ⟨R, root, hS, hC, hR, hn⟩ h.ok (by have := of_decide_eq_false q4; omega) (by have := of_decide_eq_false q6; omega) (by omega) ⟨h.l0, by omega⟩) rfl ?_
  rintro v9 w2 ⟨C9, k, i, s9, l9, r9, lk2, ev, hpl, hid, hk1, hk2, hT9, hM8⟩
  refine ⟨_, ev, ?_⟩
  clear ev
  replace hM := hM.mk hM8 hS.nb
  replace M := M.same hM8
  clear hM8
  have hTa := hT9.all
  rw [hpl] at hTa
  obtain ⟨R9, root9, hS9, hC9, hR9, hn9⟩ := hT9
  replace hS := hS9
  clear hS9
  have hkn := hR9.1
  refine wl_nc (.tmp 16) k 0 rfl rfl rfl ?_
  refine wl_un (fun v => Instr.fieldAt 66 v 1) (.tmp 17) (pt k 0) (pt k 4) (fun _ => rfl) rfl (by kernel_rfl) rfl ?_
  refine wl_load 2 (.tmp 18) (pt k 4) (.int .i64 (i)) rfl rfl (run_one (hS.rc k _ hkn) 2 4 rfl Try.underlying2 rfl) rfl ?_
  refine wl_mv (.tmp 19) (.int .i64 (i)) (fun _ => rfl) rfl rfl ?_
  refine wl_mv (.const (.bool true)) (.bool true) (fun _ => rfl) rfl rfl ?_
  refine w_nil ?_
  refine xn_then ?_
  refine w_ret ?_
  exact w_ret2 _ _ (.int .i64 (i)) (.bool true) rfl rfl rfl ⟨i, lk2, rfl, hid, h.lkd hTa hM hk1, hk1, hk2, M⟩
theorem index_a {tr : T} {id : Int} (h : FT D w t mb tr lk) (hi : -9223372036854775808 ≤ id ∧ id ≤ 9223372036854775807) (hq : adr tr.kv id = none) : Calls Try.prog 13 #[pt t 0, .int .i64 id] w fun e w' => e = .returned (.tuple #[.int .i64 0, .bool false]) ∧ Mo w w' := by
  have hw : (Lit.int .i64 id).wf = true := WalkArith.wf_i64 ⟨hi.1, hi.2⟩
  obtain ⟨R, root, hS, hC, hR, hn⟩ := h.ts
  have hM := h.om
  refine w_enter 21 Try.func13 Try.ntmps13 rfl rfl ?_
  have M : Mo w w := Mo.refl _
  refine w_seq ?_
  refine w_reg ?_
  refine wl_mv (.const (.int .i64 (0))) (.int .i64 (0)) (fun _ => rfl) rfl rfl ?_
  refine wl_mv (.const (.bool false)) (.bool false) (fun _ => rfl) rfl rfl ?_
  refine w_nil ?_
  refine xn_then ?_
  refine w_seq ?_
  refine w_seq ?_
  refine w_reg ?_
  refine wl_mv (.tmp 0) (pt t 0) (fun _ => rfl) rfl rfl ?_
  refine wl_call 29 [(.tmp 7)] _ [pt t 0] (.bool true) rfl rfl (fun _ _ => by kernel_rfl) (made_n hS) rfl ?_
  intro w1 hq
  replace hS := hS.mo hq
  replace hM := hM.mo hq
  replace M := M.trans hq
  clear hq
  refine wl_un (fun v => Op.unary .not v) (.tmp 8) (.bool true) (.bool false) (fun _ => rfl) rfl (by kernel_rfl) rfl ?_
  refine w_nil ?_
  refine xn_then ?_
  refine w_condF rfl ?_
  refine w_skip ?_
  refine xn_then ?_
  refine w_seq ?_
  refine w_reg ?_
  refine wl_mv (.tmp 0) (pt t 0) (fun _ => rfl) rfl rfl ?_
  refine wl_nc (.tmp 10) t 0 rfl rfl rfl ?_
  refine wl_un (fun v => Instr.fieldAt 59 v 1) (.tmp 11) (pt t 0) (pt t 1) (fun _ => rfl) rfl (by kernel_rfl) rfl ?_
  refine wl_load 57 (.tmp 12) (pt t 1) (.map (some mb)) rfl rfl (run_one hS.tr 57 1 rfl Try.underlying57 rfl) rfl ?_
  refine wl_mv (.tmp 1) (.int .i64 (id)) (fun _ => rfl) rfl rfl ?_
  refine wl_bin (fun x y => Instr.lookup 57 x y false) (.tmp 13) (.tmp 14) (.map (some mb)) (.int .i64 (id)) (pp none) (fun _ => rfl) rfl rfl (by have := hM.look hw; rw [hq] at this; exact this) rfl ?_
  refine wl_mv (.tmp 15) (pp none) (fun _ => rfl) rfl rfl ?_
  refine w_nil ?_
  refine xn_then ?_
  refine w_seq ?_
  refine w_seq ?_
  refine w_reg ?_
  refine wl_mv (.tmp 6) (pp none) (fun _ => rfl) rfl rfl ?_
  refine wl_bin (fun x y => do eqGuard .eql 56 (.tmp 16) (.const (.pointer none)) x y; binOp .eql 56 x y) (.tmp 16) (.const (.pointer none)) (pp none) (pp none) (.bool true) (fun _ => rfl) rfl rfl (eq56 none _ _ _) rfl ?_
  refine w_nil ?_
  refine xn_then ?_
  refine w_condT rfl ?_
  refine w_seq ?_
  refine w_reg ?_
  refine wl_mv (.const (.int .i64 (0))) (.int .i64 (0)) (fun _ => rfl) rfl rfl ?_
  refine wl_mv (.const (.bool false)) (.bool false) (fun _ => rfl) rfl rfl ?_
  refine w_nil ?_
  refine xn_then ?_
  refine w_ret ?_
  refine xr_then ?_
  exact w_ret2 _ _ (.int .i64 (0)) (.bool false) rfl rfl rfl ⟨rfl, M⟩
theorem index_ok {tr : T} {id : Int} (h : FT D w t mb tr lk) (hi : -9223372036854775808 ≤ id ∧ id ≤ 9223372036854775807) {k : Nat} (hq : adr tr.kv id = some k) (hlk : lk ≤ 3000000000000000000) : Calls Try.prog 13 #[pt t 0, .int .i64 id] w fun e w' => ∃ p lk', e = .returned (.tuple #[.int .i64 p, .bool true]) ∧ 0 ≤ p ∧ tr.ids[p.toNat]? = some id ∧ FT D w' t mb tr lk' ∧ lk ≤ lk' ∧ lk' ≤ lk + 2 * tr.ht ∧ Mk D w w' := by
  have hw : (Lit.int .i64 id).wf = true := WalkArith.wf_i64 ⟨hi.1, hi.2⟩
  obtain ⟨C0, s0, l0, r0, hpl⟩ := kv_focus tr (adr_some hq)
  have ok0 := plug_okC C0 (tr := .n k id s0 l0 r0) (by rw [hpl]; exact h.ok)
  have hsz := plug_sz C0 (.n k id s0 l0 r0)
  have hph := plug_ht C0 (.n k id s0 l0 r0)
  rw [hpl] at hsz hph
  simp only [T.sz] at hsz
  have hph1 : 1 ≤ (T.n k id s0 l0 r0).ht := by unfold T.ht; omega
  have hle := h.le
  have hl00 := h.l0
  have hhl := tr.ht_le
  have hcn := csz_nn C0; have hl0n := T.sz_nn l0; have hr0n := T.sz_nn r0
  obtain ⟨R, root, hS, hC, hR, hn⟩ := h.ts
  have hM := h.om
  have hix := pre_len C0
  refine w_enter 21 Try.func13 Try.ntmps13 rfl rfl ?_
  have M : Mk D w w := Mk.refl _ _
  refine w_seq ?_
  refine w_reg ?_
  refine wl_mv (.const (.int .i64 (0))) (.int .i64 (0)) (fun _ => rfl) rfl rfl ?_
  refine wl_mv (.const (.bool false)) (.bool false) (fun _ => rfl) rfl rfl ?_
  refine w_nil ?_
  refine xn_then ?_
  refine w_seq ?_
  refine w_seq ?_
  refine w_reg ?_
  refine wl_mv (.tmp 0) (pt t 0) (fun _ => rfl) rfl rfl ?_
  refine wl_call 29 [(.tmp 7)] _ [pt t 0] (.bool true) rfl rfl (fun _ _ => by kernel_rfl) (made_n hS) rfl ?_
  intro w1 hq
  replace hS := hS.mo hq
  replace hM := hM.mo hq
  replace M := M.trans hq
  clear hq
  refine wl_un (fun v => Op.unary .not v) (.tmp 8) (.bool true) (.bool false) (fun _ => rfl) rfl (by kernel_rfl) rfl ?_
  refine w_nil ?_
  refine xn_then ?_
  refine w_condF rfl ?_
  refine w_skip ?_
  refine xn_then ?_
  refine w_seq ?_
  refine w_reg ?_
  refine wl_mv (.tmp 0) (pt t 0) (fun _ => rfl) rfl rfl ?_
  refine wl_nc (.tmp 10) t 0 rfl rfl rfl ?_
  refine wl_un (fun v => Instr.fieldAt 59 v 1) (.tmp 11) (pt t 0) (pt t 1) (fun _ => rfl) rfl (by kernel_rfl) rfl ?_
  refine wl_load 57 (.tmp 12) (pt t 1) (.map (some mb)) rfl rfl (run_one hS.tr 57 1 rfl Try.underlying57 rfl) rfl ?_
  refine wl_mv (.tmp 1) (.int .i64 (id)) (fun _ => rfl) rfl rfl ?_
  refine wl_bin (fun x y => Instr.lookup 57 x y false) (.tmp 13) (.tmp 14) (.map (some mb)) (.int .i64 (id)) (pt k 0) (fun _ => rfl) rfl rfl (by have := hM.look hw; rw [hq] at this; exact this) rfl ?_
  refine wl_mv (.tmp 15) (pt k 0) (fun _ => rfl) rfl rfl ?_
  refine w_nil ?_
  refine xn_then ?_
  refine w_seq ?_
  refine w_seq ?_
  refine w_reg ?_
  refine wl_mv (.tmp 6) (pt k 0) (fun _ => rfl) rfl rfl ?_
  refine wl_bin (fun x y => do eqGuard .eql 56 (.tmp 16) (.const (.pointer none)) x y; binOp .eql 56 x y) (.tmp 16) (.const (.pointer none)) (pt k 0) (pp none) (.bool false) (fun _ => rfl) rfl rfl (eq56 (some k) _ _ _) rfl ?_
  refine w_nil ?_
  refine xn_then ?_
  refine w_condF rfl ?_
  refine w_skip ?_
  refine xn_then ?_
  refine w_seq ?_
  refine w_reg ?_
  refine wl_mv (.tmp 0) (pt t 0) (fun _ => rfl) rfl rfl ?_
  refine wl_mv (.tmp 6) (pt k 0) (fun _ => rfl) rfl rfl ?_
  refine wl_callg 30 [(.tmp 18), (.tmp 19)] _ [pt t 0, pt k 0] (.int .i64 (l0.sz + ix C0)) rfl rfl (fun _ _ => by kernel_rfl) (place_n (TS.at0 (C := C0) (tr := .n k id s0 l0 r0) (by rw [hpl]; exact ⟨R, root, hS, hC, hR, hn⟩)) ok0.2 ok0.1 (by omega) ⟨by omega, by omega⟩) rfl ?_
  intro w2 hF
  obtain ⟨lk2, hk1, hk2, hT2, hM2⟩ := hF
  replace hM := hM.mk hM2 hS.nb
  replace M := M.same hM2
  clear hM2
  rw [hpl] at hT2
  have hF1 := h.lkd hT2 hM hk1
  refine wl_mv (.tmp 20) (.int .i64 (l0.sz + ix C0)) (fun _ => rfl) rfl rfl ?_
  refine wl_mv (.const (.bool true)) (.bool true) (fun _ => rfl) rfl rfl ?_
  refine w_nil ?_
  refine xn_then ?_
  refine w_ret ?_
  exact w_ret2 _ _ (.int .i64 (l0.sz + ix C0)) (.bool true) rfl rfl rfl ⟨l0.sz + ix C0, lk2, rfl, by omega, by rw [← hpl]; exact ids_at, hF1, hk1, by omega, M⟩
theorem delete_a {tr : T} {id : Int} (h : FT D w t mb tr lk) (hi : -9223372036854775808 ≤ id ∧ id ≤ 9223372036854775807) (hq : adr tr.kv id = none) : Calls Try.prog 20 #[pt t 0, .int .i64 id] w fun e w' => e = .returned (.tuple #[.int .i64 0, .int .i64 4]) ∧ Mo w w' := by
  have hw : (Lit.int .i64 id).wf = true := WalkArith.wf_i64 ⟨hi.1, hi.2⟩
  obtain ⟨R, root, hS, hC, hR, hn⟩ := h.ts
  have hM := h.om
  refine w_enter 26 Try.func20 Try.ntmps20 rfl rfl ?_
  have M : Mo w w := Mo.refl _
  refine w_seq ?_
  refine w_reg ?_
  refine wl_mv (.const (.int .i64 (0))) (.int .i64 (0)) (fun _ => rfl) rfl rfl ?_
  refine wl_mv (.const (.int .i64 (0))) (.int .i64 (0)) (fun _ => rfl) rfl rfl ?_
  refine w_nil ?_
  refine xn_then ?_
  refine w_seq ?_
  refine w_seq ?_
  refine w_reg ?_
  refine wl_mv (.tmp 0) (pt t 0) (fun _ => rfl) rfl rfl ?_
  refine wl_call 29 [(.tmp 8)] _ [pt t 0] (.bool true) rfl rfl (fun _ _ => by kernel_rfl) (made_n hS) rfl ?_
  intro w1 hq
  replace hS := hS.mo hq
  replace hM := hM.mo hq
  replace M := M.trans hq
  clear hq
  refine wl_un (fun v => Op.unary .not v) (.tmp 9) (.bool true) (.bool false) (fun _ => rfl) rfl (by kernel_rfl) rfl ?_
  refine w_nil ?_
  refine xn_then ?_
  refine w_condF rfl ?_
  refine w_skip ?_
  refine xn_then ?_
  refine w_seq ?_
  refine w_reg ?_
  refine wl_mv (.tmp 0) (pt t 0) (fun _ => rfl) rfl rfl ?_
  refine wl_nc (.tmp 11) t 0 rfl rfl rfl ?_
  refine wl_un (fun v => Instr.fieldAt 59 v 1) (.tmp 12) (pt t 0) (pt t 1) (fun _ => rfl) rfl (by kernel_rfl) rfl ?_
  refine wl_load 57 (.tmp 13) (pt t 1) (.map (some mb)) rfl rfl (run_one hS.tr 57 1 rfl Try.underlying57 rfl) rfl ?_
  refine wl_mv (.tmp 1) (.int .i64 (id)) (fun _ => rfl) rfl rfl ?_
  refine wl_bin (fun x y => Instr.lookup 57 x y false) (.tmp 14) (.tmp 15) (.map (some mb)) (.int .i64 (id)) (pp none) (fun _ => rfl) rfl rfl (by have := hM.look hw; rw [hq] at this; exact this) rfl ?_
  refine wl_mv (.tmp 16) (pp none) (fun _ => rfl) rfl rfl ?_
  refine w_nil ?_
  refine xn_then ?_
  refine w_seq ?_
  refine w_seq ?_
  refine w_reg ?_
  refine wl_mv (.tmp 6) (pp none) (fun _ => rfl) rfl rfl ?_
  refine wl_bin (fun x y => do eqGuard .eql 56 (.tmp 17) (.const (.pointer none)) x y; binOp .eql 56 x y) (.tmp 17) (.const (.pointer none)) (pp none) (pp none) (.bool true) (fun _ => rfl) rfl rfl (eq56 none _ _ _) rfl ?_
  refine w_nil ?_
  refine xn_then ?_
  refine w_condT rfl ?_
  refine w_seq ?_
  refine w_reg ?_
  refine wl_mv (.const (.int .i64 (0))) (.int .i64 (0)) (fun _ => rfl) rfl rfl ?_
  refine wl_mv (.const (.int .i64 (4))) (.int .i64 (4)) (fun _ => rfl) rfl rfl ?_
  refine w_nil ?_
  refine xn_then ?_
  refine w_ret ?_
  refine xr_then ?_
  exact w_ret2 _ _ (.int .i64 (0)) (.int .i64 (4)) rfl rfl rfl ⟨rfl, M⟩
theorem delete_ok {tr : T} {id : Int} (h : FT D w t mb tr lk) (hi : -9223372036854775808 ≤ id ∧ id ≤ 9223372036854775807) {k : Nat} (hq : adr tr.kv id = some k) (hlk : lk ≤ 2900000000000000000) : Calls Try.prog 20 #[pt t 0, .int .i64 id] w fun e w' => ∃ p tr' lk', e = .returned (.tuple #[.int .i64 p, .int .i64 0]) ∧ 0 ≤ p ∧ tr.ids[p.toNat]? = some id ∧ Del tr id p tr' ∧ FT D w' t mb tr' lk' ∧ lk ≤ lk' ∧ lk' ≤ lk + 3 + 11 * tr.ht ∧ Mk (fun j => D j ∨ j = mb) w w' := by
  have hw : (Lit.int .i64 id).wf = true := WalkArith.wf_i64 ⟨hi.1, hi.2⟩
  obtain ⟨C0, s0, l0, r0, hpl⟩ := kv_focus tr (adr_some hq)
  have ok0 := plug_okC C0 (tr := .n k id s0 l0 r0) (by rw [hpl]; exact h.ok)
  have hsz := plug_sz C0 (.n k id s0 l0 r0)
  have hph := plug_ht C0 (.n k id s0 l0 r0)
  rw [hpl] at hsz hph
  simp only [T.sz] at hsz
  have hph1 : 1 ≤ (T.n k id s0 l0 r0).ht := by unfold T.ht; omega
  have hle := h.le
  have hl00 := h.l0
  have hhl := tr.ht_le
  have hcn := csz_nn C0; have hl0n := T.sz_nn l0; have hr0n := T.sz_nn r0
  obtain ⟨R, root, hS, hC, hR, hn⟩ := h.ts
  have hM := h.om
  have hix := pre_len C0
  refine w_enter 26 Try.func20 Try.ntmps20 rfl rfl ?_
  have M : Mk (fun j => D j ∨ j = mb) w w := Mk.refl _ _
  refine w_seq ?_
  refine w_reg ?_
  refine wl_mv (.const (.int .i64 (0))) (.int .i64 (0)) (fun _ => rfl) rfl rfl ?_
  refine wl_mv (.const (.int .i64 (0))) (.int .i64 (0)) (fun _ => rfl) rfl rfl ?_
  refine w_nil ?_
  refine xn_then ?_
  refine w_seq ?_
  refine w_seq ?_
  refine w_reg ?_
  refine wl_mv (.tmp 0) (pt t 0) (fun _ => rfl) rfl rfl ?_
  refine wl_call 29 [(.tmp 8)] _ [pt t 0] (.bool true) rfl rfl (fun _ _ => by kernel_rfl) (made_n hS) rfl ?_
  intro w1 hq
  replace hS := hS.mo hq
  replace hM := hM.mo hq
  replace M := M.trans hq
  clear hq
  refine wl_un (fun v => Op.unary .not v) (.tmp 9) (.bool true) (.bool false) (fun _ => rfl) rfl (by kernel_rfl) rfl ?_
  refine w_nil ?_
  refine xn_then ?_
  refine w_condF rfl ?_
  refine w_skip ?_
  refine xn_then ?_
  refine w_seq ?_
  refine w_reg ?_
  refine wl_mv (.tmp 0) (pt t 0) (fun _ => rfl) rfl rfl ?_
  refine wl_nc (.tmp 11) t 0 rfl rfl rfl ?_
  refine wl_un (fun v => Instr.fieldAt 59 v 1) (.tmp 12) (pt t 0) (pt t 1) (fun _ => rfl) rfl (by kernel_rfl) rfl ?_
  refine wl_load 57 (.tmp 13) (pt t 1) (.map (some mb)) rfl rfl (run_one hS.tr 57 1 rfl Try.underlying57 rfl) rfl ?_
  refine wl_mv (.tmp 1) (.int .i64 (id)) (fun _ => rfl) rfl rfl ?_
  refine wl_bin (fun x y => Instr.lookup 57 x y false) (.tmp 14) (.tmp 15) (.map (some mb)) (.int .i64 (id)) (pt k 0) (fun _ => rfl) rfl rfl (by have := hM.look hw; rw [hq] at this; exact this) rfl ?_
  refine wl_mv (.tmp 16) (pt k 0) (fun _ => rfl) rfl rfl ?_
  refine w_nil ?_
  refine xn_then ?_
  refine w_seq ?_
  refine w_seq ?_
  refine w_reg ?_
  refine wl_mv (.tmp 6) (pt k 0) (fun _ => rfl) rfl rfl ?_
  refine wl_bin (fun x y => do eqGuard .eql 56 (.tmp 17) (.const (.pointer none)) x y; binOp .eql 56 x y) (.tmp 17) (.const (.pointer none)) (pt k 0) (pp none) (.bool false) (fun _ => rfl) rfl rfl (eq56 (some k) _ _ _) rfl ?_
  refine w_nil ?_
  refine xn_then ?_
  refine w_condF rfl ?_
  refine w_skip ?_
  refine xn_then ?_
  refine w_seq ?_
  refine w_reg ?_
  refine wl_mv (.tmp 0) (pt t 0) (fun _ => rfl) rfl rfl ?_
  refine wl_mv (.tmp 6) (pt k 0) (fun _ => rfl) rfl rfl ?_
  refine wl_callg 30 [(.tmp 19), (.tmp 20)] _ [pt t 0, pt k 0] (.int .i64 (l0.sz + ix C0)) rfl rfl (fun _ _ => by kernel_rfl) (place_n (TS.at0 (C := C0) (tr := .n k id s0 l0 r0) (by rw [hpl]; exact ⟨R, root, hS, hC, hR, hn⟩)) ok0.2 ok0.1 (by omega) ⟨by omega, by omega⟩) rfl ?_
  intro w2 hF
  obtain ⟨lk2, hk1, hk2, hT2, hM2⟩ := hF
  replace hM := hM.mk hM2 hS.nb
  replace M := M.tr hM2 (fun _ _ e => Or.inl e)
  clear hM2
  rw [hpl] at hT2
  have hF1 := h.lkd hT2 hM hk1
  refine wl_mv (.tmp 21) (.int .i64 (l0.sz + ix C0)) (fun _ => rfl) rfl rfl ?_
  refine w_nil ?_
  refine xn_then ?_
  refine w_seq ?_
  refine w_reg ?_
  refine wl_mv (.tmp 0) (pt t 0) (fun _ => rfl) rfl rfl ?_
  refine wl_mv (.tmp 6) (pt k 0) (fun _ => rfl) rfl rfl ?_
  refine wl_callg 34 [(.tmp 22), (.tmp 23)] _ [pt t 0, pt k 0] (.tuple #[]) rfl rfl (fun _ _ => by kernel_rfl) (take_f (C := C0) (k := k) (i := id) (s := s0) (l := l0) (r := r0) (by rw [hpl]; exact hF1) (by omega)) rfl ?_
  intro w3 hF
  rw [hpl] at hF
  obtain ⟨tr2, lk3, hD, hF2, hk3, hk4, hM2⟩ := hF
  replace M := M.same hM2
  clear hM2
  refine w_nil ?_
  refine xn_then ?_
  refine w_seq ?_
  refine w_reg ?_
  refine wl_mv (.tmp 7) (.int .i64 (l0.sz + ix C0)) (fun _ => rfl) rfl rfl ?_
  refine wl_mv (.tmp 25) (.int .i64 (l0.sz + ix C0)) (fun _ => rfl) rfl rfl ?_
  refine wl_mv (.const (.int .i64 (0))) (.int .i64 (0)) (fun _ => rfl) rfl rfl ?_
  refine w_nil ?_
  refine xn_then ?_
  refine w_ret ?_
  exact w_ret2 _ _ (.int .i64 (l0.sz + ix C0)) (.int .i64 (0)) rfl rfl rfl ⟨l0.sz + ix C0, tr2, lk3, rfl, by omega, by rw [← hpl]; exact ids_at, hD, hF2, by omega, by omega, M⟩
theorem move_a {tr : T} {id at0 : Int} (h : FT D w t mb tr lk) (hi : -9223372036854775808 ≤ id ∧ id ≤ 9223372036854775807) (hq : adr tr.kv id = none) : Calls Try.prog 21 #[pt t 0, .int .i64 id, .int .i64 at0] w fun e w' => e = .returned (.tuple #[.int .i64 0, .int .i64 4]) ∧ Mo w w' := by
  have hw : (Lit.int .i64 id).wf = true := WalkArith.wf_i64 ⟨hi.1, hi.2⟩
  obtain ⟨R, root, hS, hC, hR, hn⟩ := h.ts
  have hM := h.om
  refine w_enter 40 Try.func21 Try.ntmps21 rfl rfl ?_
  have M : Mo w w := Mo.refl _
  refine w_seq ?_
  refine w_reg ?_
  refine wl_mv (.const (.int .i64 (0))) (.int .i64 (0)) (fun _ => rfl) rfl rfl ?_
  refine wl_mv (.const (.int .i64 (0))) (.int .i64 (0)) (fun _ => rfl) rfl rfl ?_
  refine w_nil ?_
  refine xn_then ?_
  refine w_seq ?_
  refine w_seq ?_
  refine w_reg ?_
  refine wl_mv (.tmp 0) (pt t 0) (fun _ => rfl) rfl rfl ?_
  refine wl_call 29 [(.tmp 10)] _ [pt t 0] (.bool true) rfl rfl (fun _ _ => by kernel_rfl) (made_n hS) rfl ?_
  intro w1 hq
  replace hS := hS.mo hq
  replace hM := hM.mo hq
  replace M := M.trans hq
  clear hq
  refine wl_un (fun v => Op.unary .not v) (.tmp 11) (.bool true) (.bool false) (fun _ => rfl) rfl (by kernel_rfl) rfl ?_
  refine w_nil ?_
  refine xn_then ?_
  refine w_condF rfl ?_
  refine w_skip ?_
  refine xn_then ?_
  refine w_seq ?_
  refine w_reg ?_
  refine wl_mv (.tmp 0) (pt t 0) (fun _ => rfl) rfl rfl ?_
  refine wl_nc (.tmp 13) t 0 rfl rfl rfl ?_
  refine wl_un (fun v => Instr.fieldAt 59 v 1) (.tmp 14) (pt t 0) (pt t 1) (fun _ => rfl) rfl (by kernel_rfl) rfl ?_
  refine wl_load 57 (.tmp 15) (pt t 1) (.map (some mb)) rfl rfl (run_one hS.tr 57 1 rfl Try.underlying57 rfl) rfl ?_
  refine wl_mv (.tmp 1) (.int .i64 (id)) (fun _ => rfl) rfl rfl ?_
  refine wl_bin (fun x y => Instr.lookup 57 x y false) (.tmp 16) (.tmp 17) (.map (some mb)) (.int .i64 (id)) (pp none) (fun _ => rfl) rfl rfl (by have := hM.look hw; rw [hq] at this; exact this) rfl ?_
  refine wl_mv (.tmp 18) (pp none) (fun _ => rfl) rfl rfl ?_
  refine w_nil ?_
  refine xn_then ?_
  refine w_seq ?_
  refine w_seq ?_
  refine w_reg ?_
  refine wl_mv (.tmp 8) (pp none) (fun _ => rfl) rfl rfl ?_
  refine wl_bin (fun x y => do eqGuard .eql 56 (.tmp 19) (.const (.pointer none)) x y; binOp .eql 56 x y) (.tmp 19) (.const (.pointer none)) (pp none) (pp none) (.bool true) (fun _ => rfl) rfl rfl (eq56 none _ _ _) rfl ?_
  refine w_nil ?_
  refine xn_then ?_
  refine w_condT rfl ?_
  refine w_seq ?_
  refine w_reg ?_
  refine wl_mv (.const (.int .i64 (0))) (.int .i64 (0)) (fun _ => rfl) rfl rfl ?_
  refine wl_mv (.const (.int .i64 (4))) (.int .i64 (4)) (fun _ => rfl) rfl rfl ?_
  refine w_nil ?_
  refine xn_then ?_
  refine w_ret ?_
  refine xr_then ?_
  exact w_ret2 _ _ (.int .i64 (0)) (.int .i64 (4)) rfl rfl rfl ⟨rfl, M⟩
theorem move_b {tr : T} {id at0 : Int} (h : FT D w t mb tr lk) (hi : -9223372036854775808 ≤ id ∧ id ≤ 9223372036854775807) {k : Nat} (hq : adr tr.kv id = some k) (q4 : decide (at0 < 0) = true) : Calls Try.prog 21 #[pt t 0, .int .i64 id, .int .i64 at0] w fun e w' => e = .returned (.tuple #[.int .i64 0, .int .i64 1]) ∧ Mo w w' := by
  have hw : (Lit.int .i64 id).wf = true := WalkArith.wf_i64 ⟨hi.1, hi.2⟩
  obtain ⟨R, root, hS, hC, hR, hn⟩ := h.ts
  have hM := h.om
  refine w_enter 40 Try.func21 Try.ntmps21 rfl rfl ?_
  have M : Mo w w := Mo.refl _
  refine w_seq ?_
  refine w_reg ?_
  refine wl_mv (.const (.int .i64 (0))) (.int .i64 (0)) (fun _ => rfl) rfl rfl ?_
  refine wl_mv (.const (.int .i64 (0))) (.int .i64 (0)) (fun _ => rfl) rfl rfl ?_
  refine w_nil ?_
  refine xn_then ?_
  refine w_seq ?_
  refine w_seq ?_
  refine w_reg ?_
  refine wl_mv (.tmp 0) (pt t 0) (fun _ => rfl) rfl rfl ?_
  refine wl_call 29 [(.tmp 10)] _ [pt t 0] (.bool true) rfl rfl (fun _ _ => by kernel_rfl) (made_n hS) rfl ?_
  intro w1 hq
  replace hS := hS.mo hq
  replace hM := hM.mo hq
  replace M := M.trans hq
  clear hq
  refine wl_un (fun v => Op.unary .not v) (.tmp 11) (.bool true) (.bool false) (fun _ => rfl) rfl (by kernel_rfl) rfl ?_
  refine w_nil ?_
  refine xn_then ?_
  refine w_condF rfl ?_
  refine w_skip ?_
  refine xn_then ?_
  refine w_seq ?_
  refine w_reg ?_
  refine wl_mv (.tmp 0) (pt t 0) (fun _ => rfl) rfl rfl ?_
  refine wl_nc (.tmp 13) t 0 rfl rfl rfl ?_
  refine wl_un (fun v => Instr.fieldAt 59 v 1) (.tmp 14) (pt t 0) (pt t 1) (fun _ => rfl) rfl (by kernel_rfl) rfl ?_
  refine wl_load 57 (.tmp 15) (pt t 1) (.map (some mb)) rfl rfl (run_one hS.tr 57 1 rfl Try.underlying57 rfl) rfl ?_
  refine wl_mv (.tmp 1) (.int .i64 (id)) (fun _ => rfl) rfl rfl ?_
  refine wl_bin (fun x y => Instr.lookup 57 x y false) (.tmp 16) (.tmp 17) (.map (some mb)) (.int .i64 (id)) (pt k 0) (fun _ => rfl) rfl rfl (by have := hM.look hw; rw [hq] at this; exact this) rfl ?_
  refine wl_mv (.tmp 18) (pt k 0) (fun _ => rfl) rfl rfl ?_
  refine w_nil ?_
  refine xn_then ?_
  refine w_seq ?_
  refine w_seq ?_
  refine w_reg ?_
  refine wl_mv (.tmp 8) (pt k 0) (fun _ => rfl) rfl rfl ?_
  refine wl_bin (fun x y => do eqGuard .eql 56 (.tmp 19) (.const (.pointer none)) x y; binOp .eql 56 x y) (.tmp 19) (.const (.pointer none)) (pt k 0) (pp none) (.bool false) (fun _ => rfl) rfl rfl (eq56 (some k) _ _ _) rfl ?_
  refine w_nil ?_
  refine xn_then ?_
  refine w_condF rfl ?_
  refine w_skip ?_
  refine xn_then ?_
  refine w_seq ?_
  refine w_seq ?_
  refine w_reg ?_
  refine wl_mv (.tmp 2) (.int .i64 (at0)) (fun _ => rfl) rfl rfl ?_
  refine wl_bin (fun x y => do eqGuard .lss 3 (.tmp 21) (.const (.int .i64 (0))) x y; binOp .lss 3 x y) (.tmp 21) (.const (.int .i64 (0))) (.int .i64 (at0)) (.int .i64 (0)) (.bool true) (fun _ => rfl) rfl rfl (ltI q4 _ _ _) rfl ?_
  refine wl_mv (.tmp 22) (.bool true) (fun _ => rfl) rfl rfl ?_
  refine wl_skip rfl ?_
  refine wl_skip rfl ?_
  refine wl_skip rfl ?_
  refine wl_skip rfl ?_
  refine wl_pick (.tmp 23) (.const (.bool true)) (.tmp 27) true (.bool true) (fun _ => rfl) rfl rfl rfl ?_
  refine w_nil ?_
  refine xn_then ?_
  refine w_condT rfl ?_
  refine w_seq ?_
  refine w_reg ?_
  refine wl_mv (.const (.int .i64 (0))) (.int .i64 (0)) (fun _ => rfl) rfl rfl ?_
  refine wl_mv (.const (.int .i64 (1))) (.int .i64 (1)) (fun _ => rfl) rfl rfl ?_
  refine w_nil ?_
  refine xn_then ?_
  refine w_ret ?_
  refine xr_then ?_
  exact w_ret2 _ _ (.int .i64 (0)) (.int .i64 (1)) rfl rfl rfl ⟨rfl, M⟩
theorem move_c {tr : T} {id at0 : Int} (h : FT D w t mb tr lk) (hi : -9223372036854775808 ≤ id ∧ id ≤ 9223372036854775807) {k : Nat} (hq : adr tr.kv id = some k) (q4 : decide (at0 < 0) = false) (q6 : decide ((tr.kv.length : Int) ≤ at0) = true) : Calls Try.prog 21 #[pt t 0, .int .i64 id, .int .i64 at0] w fun e w' => e = .returned (.tuple #[.int .i64 0, .int .i64 1]) ∧ Mo w w' := by
  have hw : (Lit.int .i64 id).wf = true := WalkArith.wf_i64 ⟨hi.1, hi.2⟩
  obtain ⟨R, root, hS, hC, hR, hn⟩ := h.ts
  have hM := h.om
  refine w_enter 40 Try.func21 Try.ntmps21 rfl rfl ?_
  have M : Mo w w := Mo.refl _
  refine w_seq ?_
  refine w_reg ?_
  refine wl_mv (.const (.int .i64 (0))) (.int .i64 (0)) (fun _ => rfl) rfl rfl ?_
  refine wl_mv (.const (.int .i64 (0))) (.int .i64 (0)) (fun _ => rfl) rfl rfl ?_
  refine w_nil ?_
  refine xn_then ?_
  refine w_seq ?_
  refine w_seq ?_
  refine w_reg ?_
  refine wl_mv (.tmp 0) (pt t 0) (fun _ => rfl) rfl rfl ?_
  refine wl_call 29 [(.tmp 10)] _ [pt t 0] (.bool true) rfl rfl (fun _ _ => by kernel_rfl) (made_n hS) rfl ?_
  intro w1 hq
  replace hS := hS.mo hq
  replace hM := hM.mo hq
  replace M := M.trans hq
  clear hq
  refine wl_un (fun v => Op.unary .not v) (.tmp 11) (.bool true) (.bool false) (fun _ => rfl) rfl (by kernel_rfl) rfl ?_
  refine w_nil ?_
  refine xn_then ?_
  refine w_condF rfl ?_
  refine w_skip ?_
  refine xn_then ?_
  refine w_seq ?_
  refine w_reg ?_
  refine wl_mv (.tmp 0) (pt t 0) (fun _ => rfl) rfl rfl ?_
  refine wl_nc (.tmp 13) t 0 rfl rfl rfl ?_
  refine wl_un (fun v => Instr.fieldAt 59 v 1) (.tmp 14) (pt t 0) (pt t 1) (fun _ => rfl) rfl (by kernel_rfl) rfl ?_
  refine wl_load 57 (.tmp 15) (pt t 1) (.map (some mb)) rfl rfl (run_one hS.tr 57 1 rfl Try.underlying57 rfl) rfl ?_
  refine wl_mv (.tmp 1) (.int .i64 (id)) (fun _ => rfl) rfl rfl ?_
  refine wl_bin (fun x y => Instr.lookup 57 x y false) (.tmp 16) (.tmp 17) (.map (some mb)) (.int .i64 (id)) (pt k 0) (fun _ => rfl) rfl rfl (by have := hM.look hw; rw [hq] at this; exact this) rfl ?_
  refine wl_mv (.tmp 18) (pt k 0) (fun _ => rfl) rfl rfl ?_
  refine w_nil ?_
  refine xn_then ?_
  refine w_seq ?_
  refine w_seq ?_
  refine w_reg ?_
  refine wl_mv (.tmp 8) (pt k 0) (fun _ => rfl) rfl rfl ?_
  refine wl_bin (fun x y => do eqGuard .eql 56 (.tmp 19) (.const (.pointer none)) x y; binOp .eql 56 x y) (.tmp 19) (.const (.pointer none)) (pt k 0) (pp none) (.bool false) (fun _ => rfl) rfl rfl (eq56 (some k) _ _ _) rfl ?_
  refine w_nil ?_
  refine xn_then ?_
  refine w_condF rfl ?_
  refine w_skip ?_
  refine xn_then ?_
  refine w_seq ?_
  refine w_seq ?_
  refine w_reg ?_
  refine wl_mv (.tmp 2) (.int .i64 (at0)) (fun _ => rfl) rfl rfl ?_
  refine wl_bin (fun x y => do eqGuard .lss 3 (.tmp 21) (.const (.int .i64 (0))) x y; binOp .lss 3 x y) (.tmp 21) (.const (.int .i64 (0))) (.int .i64 (at0)) (.int .i64 (0)) (.bool false) (fun _ => rfl) rfl rfl (ltI q4 _ _ _) rfl ?_
  refine wl_mv (.tmp 22) (.bool false) (fun _ => rfl) rfl rfl ?_
  refine wl_mv (.tmp 2) (.int .i64 (at0)) (fun _ => rfl) rfl rfl ?_
  refine wl_mv (.tmp 0) (pt t 0) (fun _ => rfl) rfl rfl ?_
  refine wl_call 15 [(.tmp 25)] _ [pt t 0] (.int .i64 ((tr.kv.length : Int))) rfl rfl (fun _ _ => by kernel_rfl) (len_n hS hM) rfl ?_
  intro w2 hq
  replace hS := hS.mo hq
  replace hM := hM.mo hq
  replace M := M.trans hq
  clear hq
  refine wl_bin (fun x y => do eqGuard .geq 3 (.tmp 24) (.tmp 26) x y; binOp .geq 3 x y) (.tmp 24) (.tmp 26) (.int .i64 (at0)) (.int .i64 ((tr.kv.length : Int))) (.bool true) (fun _ => rfl) rfl rfl (geI q6 _ _ _) rfl ?_
  refine wl_pick (.tmp 23) (.const (.bool true)) (.tmp 27) false (.bool true) (fun _ => rfl) rfl rfl rfl ?_
  refine w_nil ?_
  refine xn_then ?_
  refine w_condT rfl ?_
  refine w_seq ?_
  refine w_reg ?_
  refine wl_mv (.const (.int .i64 (0))) (.int .i64 (0)) (fun _ => rfl) rfl rfl ?_
  refine wl_mv (.const (.int .i64 (1))) (.int .i64 (1)) (fun _ => rfl) rfl rfl ?_
  refine w_nil ?_
  refine xn_then ?_
  refine w_ret ?_
  refine xr_then ?_
  exact w_ret2 _ _ (.int .i64 (0)) (.int .i64 (1)) rfl rfl rfl ⟨rfl, M⟩
end
end Go.Proofs.Ytbmbldloeblbbaa
