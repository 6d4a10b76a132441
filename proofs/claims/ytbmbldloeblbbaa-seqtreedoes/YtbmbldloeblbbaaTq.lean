/-
  What is put in and taken out, as lists; the tree's Move.
-/
import Derived.Test.YtbmbldloeblbbaaTp
namespace Go.Proofs.Ytbmbldloeblbbaa
open Go.RowKit
theorem Ins.ids {tr tr' : T} {at0 id : Int} {kn : Nat} (h : Ins tr at0 id kn tr') : ∃ A B, tr.ids = A ++ B ∧ (A.length : Int) = at0 ∧ tr'.ids = A ++ id :: B := by
  obtain ⟨C, hp, hix, rfl⟩ := h
  refine ⟨(preC C).map (·.1), (posC C).map (·.1), ?_, ?_, ?_⟩
  · rw [← hp, ← T.kv_ids, plug_kv]; simp [T.kv]
  · rw [List.length_map, pre_len, hix]
  · rw [← T.kv_ids, rebuild_kv]; simp [T.kv]
theorem Del.ids {tr tr' : T} {i p : Int} (h : Del tr i p tr') : ∃ A B, tr.ids = A ++ i :: B ∧ (A.length : Int) = p ∧ tr'.ids = A ++ B := by
  obtain ⟨C, k, s, l, r, hp, rfl, h⟩ := h
  have h1 := pre_len C
  have h2 := l.kv_len
  refine ⟨(preC C ++ l.kv).map (·.1), (r.kv ++ posC C).map (·.1), ?_, by rw [List.length_map, List.length_append]; omega, ?_⟩
  · rw [← hp, ← T.kv_ids, plug_kv]; simp [T.kv]
  · rcases h with ⟨rfl, rfl⟩ | ⟨rfl, rfl⟩ | ⟨_, Ls, kn, i2, s2, b, hpl, hLd, rfl⟩
    · rw [← T.kv_ids, rebuild_kv]; simp [T.kv]
    · rw [← T.kv_ids, rebuild_kv]; simp [T.kv]
    · have hpre : preC Ls = [] := by have := pre_left (B := []) hLd; rw [List.append_nil] at this; exact this
      have er : r.kv = (i2, kn) :: (b.kv ++ posC Ls) := by rw [← hpl, plug_kv, hpre]; simp [T.kv]
      rw [← T.kv_ids, rebuild_kv, pre_left hLd, pos_app, er]
      show ((preC C ++ (l.kv ++ [(i2, k)])) ++ b.kv ++ (posC Ls ++ ([] ++ posC C))).map _ = _
      simp
section
variable {D : Nat → Prop} {w : World} {t mb : Nat} {R : Mp} {root : Option Nat} {lk : Int}
theorem move_ok {tr : T} {id at0 : Int} (h : FT D w t mb tr lk) (hi : -9223372036854775808 ≤ id ∧ id ≤ 9223372036854775807) {k : Nat} (hq : adr tr.kv id = some k) (q4 : decide (at0 < 0) = false) (q6 : decide ((tr.kv.length : Int) ≤ at0) = false) (hlk : lk ≤ 2900000000000000000) : Calls Try.prog 21 #[pt t 0, .int .i64 id, .int .i64 at0] w fun e w' => ∃ p kn tr1 tr' lk', e = .returned (.tuple #[.int .i64 p, .int .i64 0]) ∧ 0 ≤ p ∧ tr.ids[p.toNat]? = some id ∧ Del tr id p tr1 ∧ Ins tr1 at0 id kn tr' ∧ FT (fun j => D j ∨ j = kn) w' t mb tr' lk' ∧ w.heap.size ≤ kn ∧ lk ≤ lk' ∧ lk' ≤ lk + 4 + 11 * tr.ht + 10 * tr1.ht ∧ Mk (fun j => D j ∨ j = mb) w w' := by
  have hw : (Lit.int .i64 id).wf = true := WalkArith.wf_i64 ⟨hi.1, hi.2⟩
  obtain ⟨C0, s0, l0, r0, hpl⟩ := kv_focus tr (adr_some hq)
  have ok0 := plug_okC C0 (tr := .n k id s0 l0 r0) (by rw [hpl]; exact h.ok)
  have hsz := plug_sz C0 (.n k id s0 l0 r0)
  have hph := plug_ht C0 (.n k id s0 l0 r0)
  rw [hpl] at hsz hph
  simp only [T.sz] at hsz
  have hph1 : 1 ≤ (T.n k id s0 l0 r0).ht := by unfold T.ht; omega
  have hle := h.le
  have hl00 := h.l0
  have hhl := tr.ht_le
  have hcn := csz_nn C0; have hl0n := T.sz_nn l0; have hr0n := T.sz_nn r0
  obtain ⟨R, root, hS, hC, hR, hn⟩ := h.ts
  have hM := h.om
  have hix := pre_len C0
  refine w_enter 40 Try.func21 Try.ntmps21 rfl rfl ?_
  have M : Mk (fun j => D j ∨ j = mb) w w := Mk.refl _ _
  refine w_seq ?_
  refine w_reg ?_
  refine wl_mv (.const (.int .i64 (0))) (.int .i64 (0)) (fun _ => rfl) rfl rfl ?_
  refine wl_mv (.const (.int .i64 (0))) (.int .i64 (0)) (fun _ => rfl) rfl rfl ?_
  refine w_nil ?_
  refine xn_then ?_
  refine w_seq ?_
  refine w_seq ?_
  refine w_reg ?_
  refine wl_mv (.tmp 0) (pt t 0) (fun _ => rfl) rfl rfl ?_
  refine wl_call 29 [(.tmp 10)] _ [pt t 0] (.bool true) rfl rfl (fun _ _ => by kernel_rfl) (made_n hS) rfl ?_
  intro w1 hq
  replace hS := hS.mo hq
  replace hM := hM.mo hq
  replace M := M.trans hq
  clear hq
  refine wl_un (fun v => Op.unary .not v) (.tmp 11) (.bool true) (.bool false) (fun _ => rfl) rfl (by kernel_rfl) rfl ?_
  refine w_nil ?_
  refine xn_then ?_
  refine w_condF rfl ?_
  refine w_skip ?_
  refine xn_then ?_
  refine w_seq ?_
  refine w_reg ?_
  refine wl_mv (.tmp 0) (pt t 0) (fun _ => rfl) rfl rfl ?_
  refine wl_nc (.tmp 13) t 0 rfl rfl rfl ?_
  refine wl_un (fun v => Instr.fieldAt 59 v 1) (.tmp 14) (pt t 0) (pt t 1) (fun _ => rfl) rfl (by kernel_rfl) rfl ?_
  refine wl_load 57 (.tmp 15) (pt t 1) (.map (some mb)) rfl rfl (run_one hS.tr 57 1 rfl Try.underlying57 rfl) rfl ?_
  refine wl_mv (.tmp 1) (.int .i64 (id)) (fun _ => rfl) rfl rfl ?_
  refine wl_bin (fun x y => Instr.lookup 57 x y false) (.tmp 16) (.tmp 17) (.map (some mb)) (.int .i64 (id)) (pt k 0) (fun _ => rfl) rfl rfl (by have := hM.look hw; rw [hq] at this; exact this) rfl ?_
  refine wl_mv (.tmp 18) (pt k 0) (fun _ => rfl) rfl rfl ?_
  refine w_nil ?_
  refine xn_then ?_
  refine w_seq ?_
  refine w_seq ?_
  refine w_reg ?_
  refine wl_mv (.tmp 8) (pt k 0) (fun _ => rfl) rfl rfl ?_
  refine wl_bin (fun x y => do eqGuard .eql 56 (.tmp 19) (.const (.pointer none)) x y; binOp .eql 56 x y) (.tmp 19) (.const (.pointer none)) (pt k 0) (pp none) (.bool false) (fun _ => rfl) rfl rfl (eq56 (some k) _ _ _) rfl ?_
  refine w_nil ?_
  refine xn_then ?_
  refine w_condF rfl ?_
  refine w_skip ?_
  refine xn_then ?_
  refine w_seq ?_
  refine w_seq ?_
  refine w_reg ?_
  refine wl_mv (.tmp 2) (.int .i64 (at0)) (fun _ => rfl) rfl rfl ?_
  refine wl_bin (fun x y => do eqGuard .lss 3 (.tmp 21) (.const (.int .i64 (0))) x y; binOp .lss 3 x y) (.tmp 21) (.const (.int .i64 (0))) (.int .i64 (at0)) (.int .i64 (0)) (.bool false) (fun _ => rfl) rfl rfl (ltI q4 _ _ _) rfl ?_
  refine wl_mv (.tmp 22) (.bool false) (fun _ => rfl) rfl rfl ?_
  refine wl_mv (.tmp 2) (.int .i64 (at0)) (fun _ => rfl) rfl rfl ?_
  refine wl_mv (.tmp 0) (pt t 0) (fun _ => rfl) rfl rfl ?_
  refine wl_call 15 [(.tmp 25)] _ [pt t 0] (.int .i64 ((tr.kv.length : Int))) rfl rfl (fun _ _ => by kernel_rfl) (len_n hS hM) rfl ?_
  intro w2 hq
  replace hS := hS.mo hq
  replace hM := hM.mo hq
  replace M := M.trans hq
  clear hq
  refine wl_bin (fun x y => do eqGuard .geq 3 (.tmp 24) (.tmp 26) x y; binOp .geq 3 x y) (.tmp 24) (.tmp 26) (.int .i64 (at0)) (.int .i64 ((tr.kv.length : Int))) (.bool false) (fun _ => rfl) rfl rfl (geI q6 _ _ _) rfl ?_
  refine wl_pick (.tmp 23) (.const (.bool true)) (.tmp 27) false (.bool false) (fun _ => rfl) rfl rfl rfl ?_
  refine w_nil ?_
  refine xn_then ?_
  refine w_condF rfl ?_
  refine w_skip ?_
  refine xn_then ?_
  refine w_seq ?_
  refine w_reg ?_
  refine wl_mv (.tmp 0) (pt t 0) (fun _ => rfl) rfl rfl ?_
  refine wl_mv (.tmp 8) (pt k 0) (fun _ => rfl) rfl rfl ?_
  refine wl_callg 30 [(.tmp 29), (.tmp 30)] _ [pt t 0, pt k 0] (.int .i64 (l0.sz + ix C0)) rfl rfl (fun _ _ => by kernel_rfl) (place_n (TS.at0 (C := C0) (tr := .n k id s0 l0 r0) (by rw [hpl]; exact ⟨R, root, hS, hC, hR, hn⟩)) ok0.2 ok0.1 (by omega) ⟨by omega, by omega⟩) rfl ?_
  intro w3 hF
  obtain ⟨lk2, hk1, hk2, hT2, hM2⟩ := hF
  replace hM := hM.mk hM2 hS.nb
  replace M := M.tr hM2 (fun _ _ e => Or.inl e)
  clear hM2
  rw [hpl] at hT2
  have hF1 := h.lkd hT2 hM hk1
  refine wl_mv (.tmp 31) (.int .i64 (l0.sz + ix C0)) (fun _ => rfl) rfl rfl ?_
  refine w_nil ?_
  refine xn_then ?_
  refine w_seq ?_
  refine w_reg ?_
  refine wl_mv (.tmp 0) (pt t 0) (fun _ => rfl) rfl rfl ?_
  refine wl_mv (.tmp 8) (pt k 0) (fun _ => rfl) rfl rfl ?_
  refine wl_callg 34 [(.tmp 32), (.tmp 33)] _ [pt t 0, pt k 0] (.tuple #[]) rfl rfl (fun _ _ => by kernel_rfl) (take_f (C := C0) (k := k) (i := id) (s := s0) (l := l0) (r := r0) (by rw [hpl]; exact hF1) (by omega)) rfl ?_
  intro w4 hF
  rw [hpl] at hF
  obtain ⟨tr2, lk3, hD, hF2, hk3, hk4, hM2⟩ := hF
  replace M := M.same hM2
  clear hM2
  obtain ⟨X, Y, hX1, hX2, hX3⟩ := hD.ids
  have hnd := h.nd
  rw [hX1] at hnd
  have hnot : id ∉ tr2.ids := by rw [hX3]; exact (List.nodup_cons.1 (List.perm_middle.nodup_iff.1 hnd)).1
  have hr0 := h.rg id (by rw [hX1]; simp)
  have hz1 := tr.sz_ids
  have hz2 := tr2.sz_ids
  rw [hX1] at hz1
  rw [hX3] at hz2
  simp only [List.length_append, List.length_cons] at hz1 hz2
  have hkl := tr.kv_len
  have hht2 := tr2.ht_le
  refine w_nil ?_
  refine xn_then ?_
  refine w_seq ?_
  refine w_reg ?_
  refine wl_mv (.tmp 0) (pt t 0) (fun _ => rfl) rfl rfl ?_
  refine wl_mv (.tmp 2) (.int .i64 (at0)) (fun _ => rfl) rfl rfl ?_
  refine wl_mv (.tmp 1) (.int .i64 (id)) (fun _ => rfl) rfl rfl ?_
  refine wl_callg 33 [(.tmp 35), (.tmp 36), (.tmp 37)] _ [pt t 0, .int .i64 (at0), .int .i64 (id)] (.tuple #[]) rfl rfl (fun _ _ => by kernel_rfl) (put_f hF2 hnot hr0.1 hr0.2 (by omega) (by have := of_decide_eq_false q4; omega) (by have := of_decide_eq_false q6; omega) (by omega)) rfl ?_
  intro w5 hF
  obtain ⟨kn, tr3, lk4, hI, hF3, hkn, hk5, hk6, hM2⟩ := hF
  replace hkn := Nat.le_trans M.size hkn
  replace M := M.same hM2
  clear hM2
  refine w_nil ?_
  refine xn_then ?_
  refine w_seq ?_
  refine w_reg ?_
  refine wl_mv (.tmp 9) (.int .i64 (l0.sz + ix C0)) (fun _ => rfl) rfl rfl ?_
  refine wl_mv (.tmp 39) (.int .i64 (l0.sz + ix C0)) (fun _ => rfl) rfl rfl ?_
  refine wl_mv (.const (.int .i64 (0))) (.int .i64 (0)) (fun _ => rfl) rfl rfl ?_
  refine w_nil ?_
  refine xn_then ?_
  refine w_ret ?_
  exact w_ret2 _ _ (.int .i64 (l0.sz + ix C0)) (.int .i64 (0)) rfl rfl rfl ⟨l0.sz + ix C0, kn, tr2, tr3, lk4, rfl, by omega, by rw [← hpl]; exact ids_at, hD, hI, hF3, hkn, by omega, by omega, M⟩
end
end Go.Proofs.Ytbmbldloeblbbaa
