/-
  A part of the proof.
-/
import Derived.Test.YthfemlhmnjfjiaaC8
import Derived.RangeFuncWrites
import Derived.RangeFuncLeaves
import Derived.RangeFuncCalls
import Derived.OrdersIn
/-
 The tree's Query, Get, Set.
-/
namespace Go.Proofs.Ythfemlhmnjfjiaa
open Go.RowKit
namespace G
section
variable {D : Nat → Prop} {w : World} {t : Nat} {mb : Hd} {R : Mp} {root : Option Nat} {lk : Int}
theorem query_x {tr : T} {cn fa ta : Int} (h : FT D w t mb tr lk) (qc : (decide (0 ≤ cn) && decide (cn < (mb.sc.length : Int))) = false) : Calls Try.prog 11 #[pt t 0, .int .i64 cn, .int .i64 fa, .int .i64 ta] w fun e w' => e = .returned (.tuple #[smv sm0, .int .i64 1]) ∧ Mo w w' := by
 obtain ⟨R, root, hS, hAp, hC, hR, hn⟩ := h.ts
 have hM := h.om
 have hDlt : ∀ j, D j → j < w.heap.size := fun j e => hS.lt e
 have hslt : ∀ b, ob mb.h = some b → b < w.heap.size := fun b e => hS.sc.lt e
 have hmlt := hM.lt
 refine w_enter 43 Try.func11 Try.ntmps11 rfl rfl ?_
 have M : Mk (fun _ => False) w w := Mk.refl _ _
 refine w_seq (w_reg ?_)
 refine wl_alloc 42 #[.int .i64 0, .int .i64 0, .int .i64 0, .int .i64 0, .int .i64 0, .int .u64 0, .int .u64 0, .int .u64 0, .int .u64 0, .int .u64 0, .bool false, .bool false, .int .u64 0, .int .u64 0, .int .u64 0, .int .u64 0, .int .i64 0, .bool false, .int .u64 0, .int .u64 0, .int .u64 0, .int .u64 0, .int .i64 0] rfl (fun _ => by kernel_rfl) rfl ?_
 intro k1 w1 hk9 hz hq Q1
 have hMs := M.size
 have N_k1 : w.heap.size ≤ k1 := by omega
 have nd_k1 : ¬ D k1 := fun e => by have := hDlt _ e; omega
 have ns_k1 : ∀ b, ob mb.h = some b → b ≠ k1 := fun b hb => by have := hslt b hb; omega
 have nm_k1 : k1 ≠ mb.m := by omega
 replace hS := hS.mo hq
 replace hM := hM.mo hq
 replace M := M.trans hq
 clear hk9 hz hq hMs
 refine wl_m (.const (.int .i64 (0))) (.int .i64 (0)) ?_
 refine w_nil (xn_then (w_seq (w_seq (w_reg ?_))))
 refine wl_m (.tmp 0) (pt t 0) ?_
 refine wl_call 30 [(.tmp 10)] _ [pt t 0] (.bool true) rfl rfl (fun _ _ => by kernel_rfl) (made_n hS) rfl ?_
 intro w2 hq
 replace Q1 := Q1.mo hq
 replace hS := hS.mo hq
 replace hM := hM.mo hq
 replace M := M.trans hq
 clear hq
 refine wl_un (fun v => Op.unary .not v) (.tmp 11) (.bool true) (.bool false) (fun _ => rfl) rfl (by kernel_rfl) rfl ?_
 refine w_nil (xn_then (w_condF rfl (w_skip (xn_then (w_seq (w_seq (w_reg ?_)))))))
 refine wl_m (.tmp 0) (pt t 0) ?_
 refine wl_m (.tmp 1) (.int .i64 (cn)) ?_
 refine wl_call 32 [(.tmp 14), (.tmp 15)] _ [pt t 0, .int .i64 (cn)] (.bool false) rfl rfl (fun _ _ => by kernel_rfl) (by have := has_n hS cn; rw [qc] at this; exact this) rfl ?_
 intro w3 hq
 replace Q1 := Q1.mo hq
 replace hS := hS.mo hq
 replace hM := hM.mo hq
 replace M := M.trans hq
 clear hq
 refine wl_un (fun v => Op.unary .not v) (.tmp 16) (.bool false) (.bool true) (fun _ => rfl) rfl (by kernel_rfl) rfl ?_
 refine wl_m (.tmp 17) (.bool true) ?_
 refine wl_skip rfl (wl_skip rfl ?_)
 refine wl_pick (.tmp 18) (.const (.bool true)) (.tmp 20) true (.bool true) (fun _ => rfl) rfl rfl rfl ?_
 refine wl_m (.tmp 21) (.bool true) ?_
 refine wl_skip rfl (wl_skip rfl (wl_skip rfl ?_))
 refine wl_pick (.tmp 22) (.const (.bool true)) (.tmp 25) true (.bool true) (fun _ => rfl) rfl rfl rfl ?_
 refine wl_m (.tmp 26) (.bool true) ?_
 refine wl_skip rfl (wl_skip rfl (wl_skip rfl (wl_skip rfl ?_)))
 refine wl_pick (.tmp 27) (.const (.bool true)) (.tmp 31) true (.bool true) (fun _ => rfl) rfl rfl rfl ?_
 refine w_nil (xn_then (w_condT rfl (w_seq (w_reg ?_))))
 refine wl_build 42 [] [] (.agg #[.int .i64 0, .int .i64 0, .int .i64 0, .int .i64 0, .int .i64 0, .int .u64 0, .int .u64 0, .int .u64 0, .int .u64 0, .int .u64 0, .bool false, .bool false, .int .u64 0, .int .u64 0, .int .u64 0, .int .u64 0, .int .i64 0, .bool false, .int .u64 0, .int .u64 0, .int .u64 0, .int .u64 0, .int .i64 0]) rfl rfl (by kernel_rfl) rfl ?_
 refine wl_stx2 42 (.tmp 8) (.tmp 33) k1 0 #[.int .i64 0, .int .i64 0, .int .i64 0, .int .i64 0, .int .i64 0, .int .u64 0, .int .u64 0, .int .u64 0, .int .u64 0, .int .u64 0, .bool false, .bool false, .int .u64 0, .int .u64 0, .int .u64 0, .int .u64 0, .int .i64 0, .bool false, .int .u64 0, .int .u64 0, .int .u64 0, .int .u64 0, .int .i64 0] _ [.int .i64 0, .int .i64 0, .int .i64 0, .int .i64 0, .int .i64 0, .int .u64 0, .int .u64 0, .int .u64 0, .int .u64 0, .int .u64 0, .bool false, .bool false, .int .u64 0, .int .u64 0, .int .u64 0, .int .u64 0, .int .i64 0, .bool false, .int .u64 0, .int .u64 0, .int .u64 0, .int .u64 0, .int .i64 0] Q1 rfl rfl rfl rfl rfl zs42 rfl rfl rfl ?_
 intro w4 hT Qn
 replace Q1 := Qn
 have hK := Mk.st1 hT
 replace hM := hM.mk hK (Ne.symm nm_k1)
 replace hS := hS.kept hK (fun j e q => nd_k1 (q ▸ e)) (fun b hb q => ns_k1 b hb q)
 replace M := M.tr hK (fun j hj e => absurd e (by omega))
 clear hT hK Qn
 refine wl_m (.const (.int .i64 (1))) (.int .i64 (1)) ?_
 refine w_nil (xn_then (w_ret (xr_then ?_)))
 exact w_ret2 _ _ (.agg #[.int .i64 0, .int .i64 0, .int .i64 0, .int .i64 0, .int .i64 0, .int .u64 0, .int .u64 0, .int .u64 0, .int .u64 0, .int .u64 0, .bool false, .bool false, .int .u64 0, .int .u64 0, .int .u64 0, .int .u64 0, .int .i64 0, .bool false, .int .u64 0, .int .u64 0, .int .u64 0, .int .u64 0, .int .i64 0]) (.int .i64 (1)) rfl ⟨k1, rfl, (run_row Q1 42 0 23 _ rfl Try.underlying42 rfl zs42)⟩ rfl ⟨rfl, M.mo (Mo.refl _) (fun k e => e.elim)⟩
theorem query_c {tr : T} {c : Nat} {fa ta : Int} (h : FT D w t mb tr lk) (hc : c < mb.sc.length) (hlk : lk ≤ 3000000000000000000) : Calls Try.prog 11 #[pt t 0, .int .i64 (c : Int), .int .i64 fa, .int .i64 ta] w fun e w' => ∃ S cd lk', e = .returned (.tuple #[smv S, .int .i64 cd]) ∧ ((0 ≤ fa ∧ fa ≤ ta ∧ ta ≤ tr.sz) ∧ cd = 0 ∧ S = prt c (mb.sc.getD c 0) fa ta tr.ids ∨ ¬ (0 ≤ fa ∧ fa ≤ ta ∧ ta ≤ tr.sz) ∧ cd = 1 ∧ S = sm0) ∧ FT D w' t mb tr lk' ∧ lk ≤ lk' ∧ lk' ≤ lk + 1 + 4 * tr.ht ∧ Mk D w w' := by
 obtain ⟨R, root, hS, hAp, hC, hR, hn⟩ := h.ts
 have hM := h.om
 have hDlt : ∀ j, D j → j < w.heap.size := fun j e => hS.lt e
 have hslt : ∀ b, ob mb.h = some b → b < w.heap.size := fun b e => hS.sc.lt e
 have hmlt := hM.lt
 replace hC : root = tr.p := hC
 subst hC
 have hC : RepC mb.sc R tr.p [] tr.p := rfl
 have hl00 := h.l0
 have hle := h.le
 have hkl := tr.kv_len
 have hzn := T.sz_nn tr
 have qc : (decide (0 ≤ (c : Int)) && decide ((c : Int) < (mb.sc.length : Int))) = true := by simp only [Bool.and_eq_true, decide_eq_true_eq]; omega
 refine w_enter 43 Try.func11 Try.ntmps11 rfl rfl ?_
 have M : Mk D w w := Mk.refl _ _
 refine w_seq (w_reg ?_)
 refine wl_alloc 42 #[.int .i64 0, .int .i64 0, .int .i64 0, .int .i64 0, .int .i64 0, .int .u64 0, .int .u64 0, .int .u64 0, .int .u64 0, .int .u64 0, .bool false, .bool false, .int .u64 0, .int .u64 0, .int .u64 0, .int .u64 0, .int .i64 0, .bool false, .int .u64 0, .int .u64 0, .int .u64 0, .int .u64 0, .int .i64 0] rfl (fun _ => by kernel_rfl) rfl ?_
 intro k1 w1 hk9 hz hq Q1
 have hMs := M.size
 have N_k1 : w.heap.size ≤ k1 := by omega
 have nd_k1 : ¬ D k1 := fun e => by have := hDlt _ e; omega
 have ns_k1 : ∀ b, ob mb.h = some b → b ≠ k1 := fun b hb => by have := hslt b hb; omega
 have nm_k1 : k1 ≠ mb.m := by omega
 replace hS := hS.mo hq
 replace hM := hM.mo hq
 replace M := M.trans hq
 clear hk9 hz hq hMs
 refine wl_m (.const (.int .i64 (0))) (.int .i64 (0)) ?_
 refine w_nil (xn_then (w_seq (w_seq (w_reg ?_))))
 refine wl_m (.tmp 0) (pt t 0) ?_
 refine wl_call 30 [(.tmp 10)] _ [pt t 0] (.bool true) rfl rfl (fun _ _ => by kernel_rfl) (made_n hS) rfl ?_
 intro w2 hq
 replace Q1 := Q1.mo hq
 replace hS := hS.mo hq
 replace hM := hM.mo hq
 replace M := M.trans hq
 clear hq
 refine wl_un (fun v => Op.unary .not v) (.tmp 11) (.bool true) (.bool false) (fun _ => rfl) rfl (by kernel_rfl) rfl ?_
 refine w_nil (xn_then (w_condF rfl (w_skip (xn_then (w_seq (w_seq ?_))))))
 cases hf0 : decide (fa < 0) with
 | true =>
  have hf0p := of_decide_eq_true hf0
  refine w_reg ?_
  refine wl_m (.tmp 0) (pt t 0) ?_
  refine wl_m (.tmp 1) (.int .i64 ((c : Nat) : Int)) ?_
  refine wl_call 32 [(.tmp 14), (.tmp 15)] _ [pt t 0, .int .i64 ((c : Nat) : Int)] (.bool true) rfl rfl (fun _ _ => by kernel_rfl) (by have := has_n hS (c : Int); rw [qc] at this; exact this) rfl ?_
  intro w3 hq
  replace Q1 := Q1.mo hq
  replace hS := hS.mo hq
  replace hM := hM.mo hq
  replace M := M.trans hq
  clear hq
  refine wl_un (fun v => Op.unary .not v) (.tmp 16) (.bool true) (.bool false) (fun _ => rfl) rfl (by kernel_rfl) rfl ?_
  refine wl_m (.tmp 17) (.bool false) ?_
  refine wl_m (.tmp 2) (.int .i64 (fa)) ?_
  refine wl_b .lss 3 (.tmp 19) (.const (.int .i64 (0))) (.int .i64 (fa)) (.int .i64 (0)) (.bool true) (ltI hf0 _ _ _) ?_
  refine wl_pick (.tmp 18) (.const (.bool true)) (.tmp 20) false (.bool true) (fun _ => rfl) rfl rfl rfl ?_
  refine wl_m (.tmp 21) (.bool true) ?_
  refine wl_skip rfl (wl_skip rfl (wl_skip rfl ?_))
  refine wl_pick (.tmp 22) (.const (.bool true)) (.tmp 25) true (.bool true) (fun _ => rfl) rfl rfl rfl ?_
  refine wl_m (.tmp 26) (.bool true) ?_
  refine wl_skip rfl (wl_skip rfl (wl_skip rfl (wl_skip rfl ?_)))
  refine wl_pick (.tmp 27) (.const (.bool true)) (.tmp 31) true (.bool true) (fun _ => rfl) rfl rfl rfl ?_
  refine w_nil (xn_then (w_condT rfl (w_seq (w_reg ?_))))
  refine wl_build 42 [] [] (.agg #[.int .i64 0, .int .i64 0, .int .i64 0, .int .i64 0, .int .i64 0, .int .u64 0, .int .u64 0, .int .u64 0, .int .u64 0, .int .u64 0, .bool false, .bool false, .int .u64 0, .int .u64 0, .int .u64 0, .int .u64 0, .int .i64 0, .bool false, .int .u64 0, .int .u64 0, .int .u64 0, .int .u64 0, .int .i64 0]) rfl rfl (by kernel_rfl) rfl ?_
  refine wl_stx2 42 (.tmp 8) (.tmp 33) k1 0 #[.int .i64 0, .int .i64 0, .int .i64 0, .int .i64 0, .int .i64 0, .int .u64 0, .int .u64 0, .int .u64 0, .int .u64 0, .int .u64 0, .bool false, .bool false, .int .u64 0, .int .u64 0, .int .u64 0, .int .u64 0, .int .i64 0, .bool false, .int .u64 0, .int .u64 0, .int .u64 0, .int .u64 0, .int .i64 0] _ [.int .i64 0, .int .i64 0, .int .i64 0, .int .i64 0, .int .i64 0, .int .u64 0, .int .u64 0, .int .u64 0, .int .u64 0, .int .u64 0, .bool false, .bool false, .int .u64 0, .int .u64 0, .int .u64 0, .int .u64 0, .int .i64 0, .bool false, .int .u64 0, .int .u64 0, .int .u64 0, .int .u64 0, .int .i64 0] Q1 rfl rfl rfl rfl rfl zs42 rfl rfl rfl ?_
  intro w4 hT Qn
  replace Q1 := Qn
  have hK := Mk.st1 hT
  replace hM := hM.mk hK (Ne.symm nm_k1)
  replace hS := hS.kept hK (fun j e q => nd_k1 (q ▸ e)) (fun b hb q => ns_k1 b hb q)
  replace M := M.tr hK (fun j hj e => absurd e (by omega))
  clear hT hK Qn
  refine wl_m (.const (.int .i64 (1))) (.int .i64 (1)) ?_
  refine w_nil (xn_then (w_ret (xr_then ?_)))
  exact w_ret2 _ _ (.agg #[.int .i64 0, .int .i64 0, .int .i64 0, .int .i64 0, .int .i64 0, .int .u64 0, .int .u64 0, .int .u64 0, .int .u64 0, .int .u64 0, .bool false, .bool false, .int .u64 0, .int .u64 0, .int .u64 0, .int .u64 0, .int .i64 0, .bool false, .int .u64 0, .int .u64 0, .int .u64 0, .int .u64 0, .int .i64 0]) (.int .i64 (1)) rfl ⟨k1, rfl, (run_row Q1 42 0 23 _ rfl Try.underlying42 rfl zs42)⟩ rfl ⟨sm0, 1, lk, rfl, Or.inr ⟨by have := of_decide_eq_true hf0; omega, rfl, rfl⟩, ⟨⟨R, tr.p, ⟨hS, hAp, hC, hR, hn⟩⟩, hM, h.ok, h.nd, h.rg, h.le, h.l0, h.hm⟩, by omega, by omega, M⟩
 | false =>
  have hf0p := of_decide_eq_false hf0
  cases hf1 : decide (ta < fa) with
  | true =>
   have hf1p := of_decide_eq_true hf1
   refine w_reg ?_
   refine wl_m (.tmp 0) (pt t 0) ?_
   refine wl_m (.tmp 1) (.int .i64 ((c : Nat) : Int)) ?_
   refine wl_call 32 [(.tmp 14), (.tmp 15)] _ [pt t 0, .int .i64 ((c : Nat) : Int)] (.bool true) rfl rfl (fun _ _ => by kernel_rfl) (by have := has_n hS (c : Int); rw [qc] at this; exact this) rfl ?_
   intro w3 hq
   replace Q1 := Q1.mo hq
   replace hS := hS.mo hq
   replace hM := hM.mo hq
   replace M := M.trans hq
   clear hq
   refine wl_un (fun v => Op.unary .not v) (.tmp 16) (.bool true) (.bool false) (fun _ => rfl) rfl (by kernel_rfl) rfl ?_
   refine wl_m (.tmp 17) (.bool false) ?_
   refine wl_m (.tmp 2) (.int .i64 (fa)) ?_
   refine wl_b .lss 3 (.tmp 19) (.const (.int .i64 (0))) (.int .i64 (fa)) (.int .i64 (0)) (.bool false) (ltI hf0 _ _ _) ?_
   refine wl_pick (.tmp 18) (.const (.bool true)) (.tmp 20) false (.bool false) (fun _ => rfl) rfl rfl rfl ?_
   refine wl_m (.tmp 21) (.bool false) ?_
   refine wl_m (.tmp 2) (.int .i64 (fa)) ?_
   refine wl_m (.tmp 3) (.int .i64 (ta)) ?_
   refine wl_b .gtr 3 (.tmp 23) (.tmp 24) (.int .i64 (fa)) (.int .i64 (ta)) (.bool true) (gtI hf1 _ _ _) ?_
   refine wl_pick (.tmp 22) (.const (.bool true)) (.tmp 25) false (.bool true) (fun _ => rfl) rfl rfl rfl ?_
   refine wl_m (.tmp 26) (.bool true) ?_
   refine wl_skip rfl (wl_skip rfl (wl_skip rfl (wl_skip rfl ?_)))
   refine wl_pick (.tmp 27) (.const (.bool true)) (.tmp 31) true (.bool true) (fun _ => rfl) rfl rfl rfl ?_
   refine w_nil (xn_then (w_condT rfl (w_seq (w_reg ?_))))
   refine wl_build 42 [] [] (.agg #[.int .i64 0, .int .i64 0, .int .i64 0, .int .i64 0, .int .i64 0, .int .u64 0, .int .u64 0, .int .u64 0, .int .u64 0, .int .u64 0, .bool false, .bool false, .int .u64 0, .int .u64 0, .int .u64 0, .int .u64 0, .int .i64 0, .bool false, .int .u64 0, .int .u64 0, .int .u64 0, .int .u64 0, .int .i64 0]) rfl rfl (by kernel_rfl) rfl ?_
   refine wl_stx2 42 (.tmp 8) (.tmp 33) k1 0 #[.int .i64 0, .int .i64 0, .int .i64 0, .int .i64 0, .int .i64 0, .int .u64 0, .int .u64 0, .int .u64 0, .int .u64 0, .int .u64 0, .bool false, .bool false, .int .u64 0, .int .u64 0, .int .u64 0, .int .u64 0, .int .i64 0, .bool false, .int .u64 0, .int .u64 0, .int .u64 0, .int .u64 0, .int .i64 0] _ [.int .i64 0, .int .i64 0, .int .i64 0, .int .i64 0, .int .i64 0, .int .u64 0, .int .u64 0, .int .u64 0, .int .u64 0, .int .u64 0, .bool false, .bool false, .int .u64 0, .int .u64 0, .int .u64 0, .int .u64 0, .int .i64 0, .bool false, .int .u64 0, .int .u64 0, .int .u64 0, .int .u64 0, .int .i64 0] Q1 rfl rfl rfl rfl rfl zs42 rfl rfl rfl ?_
   intro w4 hT Qn
   replace Q1 := Qn
   have hK := Mk.st1 hT
   replace hM := hM.mk hK (Ne.symm nm_k1)
   replace hS := hS.kept hK (fun j e q => nd_k1 (q ▸ e)) (fun b hb q => ns_k1 b hb q)
   replace M := M.tr hK (fun j hj e => absurd e (by omega))
   clear hT hK Qn
   refine wl_m (.const (.int .i64 (1))) (.int .i64 (1)) ?_
   refine w_nil (xn_then (w_ret (xr_then ?_)))
   exact w_ret2 _ _ (.agg #[.int .i64 0, .int .i64 0, .int .i64 0, .int .i64 0, .int .i64 0, .int .u64 0, .int .u64 0, .int .u64 0, .int .u64 0, .int .u64 0, .bool false, .bool false, .int .u64 0, .int .u64 0, .int .u64 0, .int .u64 0, .int .i64 0, .bool false, .int .u64 0, .int .u64 0, .int .u64 0, .int .u64 0, .int .i64 0]) (.int .i64 (1)) rfl ⟨k1, rfl, (run_row Q1 42 0 23 _ rfl Try.underlying42 rfl zs42)⟩ rfl ⟨sm0, 1, lk, rfl, Or.inr ⟨by have := of_decide_eq_false hf0; have := of_decide_eq_true hf1; omega, rfl, rfl⟩, ⟨⟨R, tr.p, ⟨hS, hAp, hC, hR, hn⟩⟩, hM, h.ok, h.nd, h.rg, h.le, h.l0, h.hm⟩, by omega, by omega, M⟩
  | false =>
   have hf1p := of_decide_eq_false hf1
   cases hf2 : decide ((tr.kv.length : Int) < ta) with
   | true =>
    have hf2p := of_decide_eq_true hf2
    refine w_reg ?_
    refine wl_m (.tmp 0) (pt t 0) ?_
    refine wl_m (.tmp 1) (.int .i64 ((c : Nat) : Int)) ?_
    refine wl_call 32 [(.tmp 14), (.tmp 15)] _ [pt t 0, .int .i64 ((c : Nat) : Int)] (.bool true) rfl rfl (fun _ _ => by kernel_rfl) (by have := has_n hS (c : Int); rw [qc] at this; exact this) rfl ?_
    intro w3 hq
    replace Q1 := Q1.mo hq
    replace hS := hS.mo hq
    replace hM := hM.mo hq
    replace M := M.trans hq
    clear hq
    refine wl_un (fun v => Op.unary .not v) (.tmp 16) (.bool true) (.bool false) (fun _ => rfl) rfl (by kernel_rfl) rfl ?_
    refine wl_m (.tmp 17) (.bool false) ?_
    refine wl_m (.tmp 2) (.int .i64 (fa)) ?_
    refine wl_b .lss 3 (.tmp 19) (.const (.int .i64 (0))) (.int .i64 (fa)) (.int .i64 (0)) (.bool false) (ltI hf0 _ _ _) ?_
    refine wl_pick (.tmp 18) (.const (.bool true)) (.tmp 20) false (.bool false) (fun _ => rfl) rfl rfl rfl ?_
    refine wl_m (.tmp 21) (.bool false) ?_
    refine wl_m (.tmp 2) (.int .i64 (fa)) ?_
    refine wl_m (.tmp 3) (.int .i64 (ta)) ?_
    refine wl_b .gtr 3 (.tmp 23) (.tmp 24) (.int .i64 (fa)) (.int .i64 (ta)) (.bool false) (gtI hf1 _ _ _) ?_
    refine wl_pick (.tmp 22) (.const (.bool true)) (.tmp 25) false (.bool false) (fun _ => rfl) rfl rfl rfl ?_
    refine wl_m (.tmp 26) (.bool false) ?_
    refine wl_m (.tmp 3) (.int .i64 (ta)) ?_
    refine wl_m (.tmp 0) (pt t 0) ?_
    refine wl_call 10 [(.tmp 29)] _ [pt t 0] (.int .i64 ((tr.kv.length : Int))) rfl rfl (fun _ _ => by kernel_rfl) (len_n hS hM) rfl ?_
    intro w4 hq
    replace Q1 := Q1.mo hq
    replace hS := hS.mo hq
    replace hM := hM.mo hq
    replace M := M.trans hq
    clear hq
    refine wl_b .gtr 3 (.tmp 28) (.tmp 30) (.int .i64 (ta)) (.int .i64 ((tr.kv.length : Int))) (.bool true) (gtI hf2 _ _ _) ?_
    refine wl_pick (.tmp 27) (.const (.bool true)) (.tmp 31) false (.bool true) (fun _ => rfl) rfl rfl rfl ?_
    refine w_nil (xn_then (w_condT rfl (w_seq (w_reg ?_))))
    refine wl_build 42 [] [] (.agg #[.int .i64 0, .int .i64 0, .int .i64 0, .int .i64 0, .int .i64 0, .int .u64 0, .int .u64 0, .int .u64 0, .int .u64 0, .int .u64 0, .bool false, .bool false, .int .u64 0, .int .u64 0, .int .u64 0, .int .u64 0, .int .i64 0, .bool false, .int .u64 0, .int .u64 0, .int .u64 0, .int .u64 0, .int .i64 0]) rfl rfl (by kernel_rfl) rfl ?_
    refine wl_stx2 42 (.tmp 8) (.tmp 33) k1 0 #[.int .i64 0, .int .i64 0, .int .i64 0, .int .i64 0, .int .i64 0, .int .u64 0, .int .u64 0, .int .u64 0, .int .u64 0, .int .u64 0, .bool false, .bool false, .int .u64 0, .int .u64 0, .int .u64 0, .int .u64 0, .int .i64 0, .bool false, .int .u64 0, .int .u64 0, .int .u64 0, .int .u64 0, .int .i64 0] _ [.int .i64 0, .int .i64 0, .int .i64 0, .int .i64 0, .int .i64 0, .int .u64 0, .int .u64 0, .int .u64 0, .int .u64 0, .int .u64 0, .bool false, .bool false, .int .u64 0, .int .u64 0, .int .u64 0, .int .u64 0, .int .i64 0, .bool false, .int .u64 0, .int .u64 0, .int .u64 0, .int .u64 0, .int .i64 0] Q1 rfl rfl rfl rfl rfl zs42 rfl rfl rfl ?_
    intro w5 hT Qn
    replace Q1 := Qn
    have hK := Mk.st1 hT
    replace hM := hM.mk hK (Ne.symm nm_k1)
    replace hS := hS.kept hK (fun j e q => nd_k1 (q ▸ e)) (fun b hb q => ns_k1 b hb q)
    replace M := M.tr hK (fun j hj e => absurd e (by omega))
    clear hT hK Qn
    refine wl_m (.const (.int .i64 (1))) (.int .i64 (1)) ?_
    refine w_nil (xn_then (w_ret (xr_then ?_)))
    exact w_ret2 _ _ (.agg #[.int .i64 0, .int .i64 0, .int .i64 0, .int .i64 0, .int .i64 0, .int .u64 0, .int .u64 0, .int .u64 0, .int .u64 0, .int .u64 0, .bool false, .bool false, .int .u64 0, .int .u64 0, .int .u64 0, .int .u64 0, .int .i64 0, .bool false, .int .u64 0, .int .u64 0, .int .u64 0, .int .u64 0, .int .i64 0]) (.int .i64 (1)) rfl ⟨k1, rfl, (run_row Q1 42 0 23 _ rfl Try.underlying42 rfl zs42)⟩ rfl ⟨sm0, 1, lk, rfl, Or.inr ⟨by have := of_decide_eq_false hf0; have := of_decide_eq_false hf1; have := of_decide_eq_true hf2; omega, rfl, rfl⟩, ⟨⟨R, tr.p, ⟨hS, hAp, hC, hR, hn⟩⟩, hM, h.ok, h.nd, h.rg, h.le, h.l0, h.hm⟩, by omega, by omega, M⟩
   | false =>
    have hf2p := of_decide_eq_false hf2
    refine w_reg ?_
    refine wl_m (.tmp 0) (pt t 0) ?_
    refine wl_m (.tmp 1) (.int .i64 ((c : Nat) : Int)) ?_
    refine wl_call 32 [(.tmp 14), (.tmp 15)] _ [pt t 0, .int .i64 ((c : Nat) : Int)] (.bool true) rfl rfl (fun _ _ => by kernel_rfl) (by have := has_n hS (c : Int); rw [qc] at this; exact this) rfl ?_
    intro w3 hq
    replace Q1 := Q1.mo hq
    replace hS := hS.mo hq
    replace hM := hM.mo hq
    replace M := M.trans hq
    clear hq
    refine wl_un (fun v => Op.unary .not v) (.tmp 16) (.bool true) (.bool false) (fun _ => rfl) rfl (by kernel_rfl) rfl ?_
    refine wl_m (.tmp 17) (.bool false) ?_
    refine wl_m (.tmp 2) (.int .i64 (fa)) ?_
    refine wl_b .lss 3 (.tmp 19) (.const (.int .i64 (0))) (.int .i64 (fa)) (.int .i64 (0)) (.bool false) (ltI hf0 _ _ _) ?_
    refine wl_pick (.tmp 18) (.const (.bool true)) (.tmp 20) false (.bool false) (fun _ => rfl) rfl rfl rfl ?_
    refine wl_m (.tmp 21) (.bool false) ?_
    refine wl_m (.tmp 2) (.int .i64 (fa)) ?_
    refine wl_m (.tmp 3) (.int .i64 (ta)) ?_
    refine wl_b .gtr 3 (.tmp 23) (.tmp 24) (.int .i64 (fa)) (.int .i64 (ta)) (.bool false) (gtI hf1 _ _ _) ?_
    refine wl_pick (.tmp 22) (.const (.bool true)) (.tmp 25) false (.bool false) (fun _ => rfl) rfl rfl rfl ?_
    refine wl_m (.tmp 26) (.bool false) ?_
    refine wl_m (.tmp 3) (.int .i64 (ta)) ?_
    refine wl_m (.tmp 0) (pt t 0) ?_
    refine wl_call 10 [(.tmp 29)] _ [pt t 0] (.int .i64 ((tr.kv.length : Int))) rfl rfl (fun _ _ => by kernel_rfl) (len_n hS hM) rfl ?_
    intro w4 hq
    replace Q1 := Q1.mo hq
    replace hS := hS.mo hq
    replace hM := hM.mo hq
    replace M := M.trans hq
    clear hq
    refine wl_b .gtr 3 (.tmp 28) (.tmp 30) (.int .i64 (ta)) (.int .i64 ((tr.kv.length : Int))) (.bool false) (gtI hf2 _ _ _) ?_
    refine wl_pick (.tmp 27) (.const (.bool true)) (.tmp 31) false (.bool false) (fun _ => rfl) rfl rfl rfl ?_
    refine w_nil (xn_then (w_condF rfl (w_skip (xn_then (w_seq (w_reg ?_))))))
    refine wl_m (.tmp 0) (pt t 0) ?_
    refine wl_m (.tmp 0) (pt t 0) ?_
    refine wl_nc (.tmp 35) t 0 rfl rfl rfl ?_
    refine wl_f 68 1 (.tmp 36) (pt t 0) (pt t 1) ?_
    refine wl_l 65 (.tmp 37) (pt t 1) (pp tr.p) (run_one hS.tr 65 1 rfl Try.underlying65 rfl) ?_
    refine wl_m (.tmp 1) (.int .i64 ((c : Nat) : Int)) ?_
    refine wl_m (.tmp 2) (.int .i64 (fa)) ?_
    refine wl_m (.tmp 3) (.int .i64 (ta)) ?_
    obtain ⟨Sp, hSp⟩ : ∃ X, X = prt c (mb.sc.getD c 0) fa ta tr.ids := ⟨_, rfl⟩
    refine wl_callg 33 [(.tmp 34), (.tmp 38), (.tmp 39), (.tmp 40), (.tmp 41)] _ [pt t 0, pp tr.p, .int .i64 ((c : Nat) : Int), .int .i64 (fa), .int .i64 (ta)] (smv Sp) rfl rfl (fun _ _ => by kernel_rfl) (by have h9 := part_n tr (fa := fa) (ta := ta) hc hS hR h.ok h.le (by have := of_decide_eq_false hf0; have := of_decide_eq_false hf1; have := of_decide_eq_false hf2; omega) (by have := of_decide_eq_false hf0; have := of_decide_eq_false hf1; have := of_decide_eq_false hf2; omega) (by omega) (by omega); rw [← hSp] at h9; exact h9) rfl ?_
    intro w5 hF
    obtain ⟨lk2, hS2, hl1, hl2, hM2⟩ := hF
    have hl2b := hl2.1
    replace Q1 := hM2.at Q1 nd_k1
    replace hM := hM.mk hM2 hS.nb
    replace hS := hS2
    replace M := M.same hM2
    clear hS2 hM2
    refine wl_stx2 42 (.tmp 8) (.tmp 42) k1 0 ((sml Sp).toArray) _ (sml Sp) Q1 rfl rfl rfl rfl rfl zs42 rfl rfl rfl ?_
    intro w6 hT Qn
    replace Q1 := Qn
    have hK := Mk.st1 hT
    replace hM := hM.mk hK (Ne.symm nm_k1)
    replace hS := hS.kept hK (fun j e q => nd_k1 (q ▸ e)) (fun b hb q => ns_k1 b hb q)
    replace M := M.tr hK (fun j hj e => absurd e (by omega))
    clear hT hK Qn
    refine wl_m (.const (.int .i64 (0))) (.int .i64 (0)) ?_
    refine w_nil (xn_then (w_ret ?_))
    exact w_ret2 _ _ (smv Sp) (.int .i64 (0)) rfl ⟨k1, rfl, (run_row Q1 42 0 23 (sml Sp) rfl Try.underlying42 rfl zs42)⟩ rfl ⟨Sp, 0, lk2, rfl, Or.inl ⟨by have := of_decide_eq_false hf0; have := of_decide_eq_false hf1; have := of_decide_eq_false hf2; omega, rfl, hSp⟩, h.lkd ⟨R, tr.p, ⟨hS, hAp, hC, hR, hn⟩⟩ hM (by omega), by omega, by omega, M⟩
theorem set_x {tr : T} {cn id : Int} {x : V10} (h : FT D w t mb tr lk) (qc : (decide (0 ≤ cn) && decide (cn < (mb.sc.length : Int))) = false) : Calls Try.prog 17 #[pt t 0, .int .i64 id, .int .i64 cn, V10.v x] w fun e w' => e = .returned (.int .i64 1) ∧ Mo w w' := by
 obtain ⟨R, root, hS, hAp, hC, hR, hn⟩ := h.ts
 have hM := h.om
 have hDlt : ∀ j, D j → j < w.heap.size := fun j e => hS.lt e
 have hslt : ∀ b, ob mb.h = some b → b < w.heap.size := fun b e => hS.sc.lt e
 have hmlt := hM.lt
 refine w_enter 37 Try.func17 Try.ntmps17 rfl rfl ?_
 have M : Mk (fun _ => False) w w := Mk.refl _ _
 refine w_seq (w_reg ?_)
 refine wl_box 55 (.tmp 3) (V10.v x) (((V10.cells x).toArray)) rfl rfl (fun _ => by kernel_rfl) rfl ?_
 intro k1 w1 hk9 hz hq Q1
 have hMs := M.size
 have N_k1 : w.heap.size ≤ k1 := by omega
 have nd_k1 : ¬ D k1 := fun e => by have := hDlt _ e; omega
 have ns_k1 : ∀ b, ob mb.h = some b → b ≠ k1 := fun b hb => by have := hslt b hb; omega
 have nm_k1 : k1 ≠ mb.m := by omega
 replace hS := hS.mo hq
 replace hM := hM.mo hq
 replace M := M.trans hq
 clear hk9 hz hq hMs
 refine wl_m (.const (.int .i64 (0))) (.int .i64 (0)) ?_
 refine w_nil (xn_then (w_seq (w_seq (w_reg ?_))))
 refine wl_m (.tmp 0) (pt t 0) ?_
 refine wl_call 30 [(.tmp 10)] _ [pt t 0] (.bool true) rfl rfl (fun _ _ => by kernel_rfl) (made_n hS) rfl ?_
 intro w2 hq
 replace Q1 := Q1.mo hq
 replace hS := hS.mo hq
 replace hM := hM.mo hq
 replace M := M.trans hq
 clear hq
 refine wl_un (fun v => Op.unary .not v) (.tmp 11) (.bool true) (.bool false) (fun _ => rfl) rfl (by kernel_rfl) rfl ?_
 refine w_nil (xn_then (w_condF rfl (w_skip (xn_then (w_seq (w_seq (w_reg ?_)))))))
 refine wl_m (.tmp 0) (pt t 0) ?_
 refine wl_m (.tmp 2) (.int .i64 (cn)) ?_
 refine wl_call 32 [(.tmp 13), (.tmp 14)] _ [pt t 0, .int .i64 (cn)] (.bool false) rfl rfl (fun _ _ => by kernel_rfl) (by have := has_n hS cn; rw [qc] at this; exact this) rfl ?_
 intro w3 hq
 replace Q1 := Q1.mo hq
 replace hS := hS.mo hq
 replace hM := hM.mo hq
 replace M := M.trans hq
 clear hq
 refine wl_un (fun v => Op.unary .not v) (.tmp 15) (.bool false) (.bool true) (fun _ => rfl) rfl (by kernel_rfl) rfl ?_
 refine w_nil (xn_then (w_condT rfl (w_seq (w_reg ?_))))
 refine wl_m (.const (.int .i64 (1))) (.int .i64 (1)) ?_
 refine w_nil (xn_then (w_ret (xr_then ?_)))
 exact w_ret1 _ (.int .i64 (1)) rfl rfl ⟨rfl, M.mo (Mo.refl _) (fun k e => e.elim)⟩
theorem set_n {tr : T} {id : Int} {c : Nat} {x : V10} (h : FT D w t mb tr lk) (hi : -9223372036854775808 ≤ id ∧ id ≤ 9223372036854775807) (hc : c < mb.sc.length) (hq : adr tr.kv id = none) : Calls Try.prog 17 #[pt t 0, .int .i64 id, .int .i64 (c : Int), V10.v x] w fun e w' => e = .returned (.int .i64 4) ∧ Mo w w' := by
 have hw : (Lit.int .i64 id).wf = true := WalkArith.wf_i64 ⟨hi.1, hi.2⟩
 obtain ⟨R, root, hS, hAp, hC, hR, hn⟩ := h.ts
 have hM := h.om
 have hDlt : ∀ j, D j → j < w.heap.size := fun j e => hS.lt e
 have hslt : ∀ b, ob mb.h = some b → b < w.heap.size := fun b e => hS.sc.lt e
 have hmlt := hM.lt
 have qc : (decide (0 ≤ (c : Int)) && decide ((c : Int) < (mb.sc.length : Int))) = true := by simp only [Bool.and_eq_true, decide_eq_true_eq]; omega
 refine w_enter 37 Try.func17 Try.ntmps17 rfl rfl ?_
 have M : Mk (fun _ => False) w w := Mk.refl _ _
 refine w_seq (w_reg ?_)
 refine wl_box 55 (.tmp 3) (V10.v x) (((V10.cells x).toArray)) rfl rfl (fun _ => by kernel_rfl) rfl ?_
 intro k1 w1 hk9 hz hq Q1
 have hMs := M.size
 have N_k1 : w.heap.size ≤ k1 := by omega
 have nd_k1 : ¬ D k1 := fun e => by have := hDlt _ e; omega
 have ns_k1 : ∀ b, ob mb.h = some b → b ≠ k1 := fun b hb => by have := hslt b hb; omega
 have nm_k1 : k1 ≠ mb.m := by omega
 replace hS := hS.mo hq
 replace hM := hM.mo hq
 replace M := M.trans hq
 clear hk9 hz hq hMs
 refine wl_m (.const (.int .i64 (0))) (.int .i64 (0)) ?_
 refine w_nil (xn_then (w_seq (w_seq (w_reg ?_))))
 refine wl_m (.tmp 0) (pt t 0) ?_
 refine wl_call 30 [(.tmp 10)] _ [pt t 0] (.bool true) rfl rfl (fun _ _ => by kernel_rfl) (made_n hS) rfl ?_
 intro w2 hq
 replace Q1 := Q1.mo hq
 replace hS := hS.mo hq
 replace hM := hM.mo hq
 replace M := M.trans hq
 clear hq
 refine wl_un (fun v => Op.unary .not v) (.tmp 11) (.bool true) (.bool false) (fun _ => rfl) rfl (by kernel_rfl) rfl ?_
 refine w_nil (xn_then (w_condF rfl (w_skip (xn_then (w_seq (w_seq (w_reg ?_)))))))
 refine wl_m (.tmp 0) (pt t 0) ?_
 refine wl_m (.tmp 2) (.int .i64 ((c : Nat) : Int)) ?_
 refine wl_call 32 [(.tmp 13), (.tmp 14)] _ [pt t 0, .int .i64 ((c : Nat) : Int)] (.bool true) rfl rfl (fun _ _ => by kernel_rfl) (by have := has_n hS (c : Int); rw [qc] at this; exact this) rfl ?_
 intro w3 hq
 replace Q1 := Q1.mo hq
 replace hS := hS.mo hq
 replace hM := hM.mo hq
 replace M := M.trans hq
 clear hq
 refine wl_un (fun v => Op.unary .not v) (.tmp 15) (.bool true) (.bool false) (fun _ => rfl) rfl (by kernel_rfl) rfl ?_
 refine w_nil (xn_then (w_condF rfl (w_skip (xn_then (w_seq (w_reg ?_))))))
 refine wl_m (.tmp 0) (pt t 0) ?_
 refine wl_nc (.tmp 17) t 0 rfl rfl rfl ?_
 refine wl_f 68 2 (.tmp 18) (pt t 0) (pt t 2) ?_
 refine wl_l 66 (.tmp 19) (pt t 2) (.map (some mb.m)) (run_one hS.tr 66 2 rfl Try.underlying66 rfl) ?_
 refine wl_m (.tmp 1) (.int .i64 (id)) ?_
 refine wl_bin (fun x y => Instr.lookup 66 x y false) (.tmp 20) (.tmp 21) (.map (some mb.m)) (.int .i64 (id)) (pp none) (fun _ => rfl) rfl rfl (by have := hM.look hw; rw [hq] at this; exact this) rfl ?_
 refine wl_m (.tmp 22) (pp none) ?_
 refine w_nil (xn_then (w_seq (w_seq (w_reg ?_))))
 refine wl_m (.tmp 9) (pp none) ?_
 refine wl_b .eql 65 (.tmp 23) (.const (.pointer none)) (pp none) (pp none) (.bool true) (eqP none _ _ _) ?_
 refine w_nil (xn_then (w_condT rfl (w_seq (w_reg ?_))))
 refine wl_m (.const (.int .i64 (4))) (.int .i64 (4)) ?_
 refine w_nil (xn_then (w_ret (xr_then ?_)))
 exact w_ret1 _ (.int .i64 (4)) rfl rfl ⟨rfl, M.mo (Mo.refl _) (fun k e => e.elim)⟩
theorem set_ok {tr : T} {id : Int} {c : Nat} {x : V10} (h : FT D w t mb tr lk) (hi : -9223372036854775808 ≤ id ∧ id ≤ 9223372036854775807) (hc : c < mb.sc.length) (hx : x.n.ok) {k : Nat} (hq : adr tr.kv id = some k) (hlk : lk ≤ 3000000000000000000) : Calls Try.prog 17 #[pt t 0, .int .i64 id, .int .i64 (c : Int), V10.v x] w fun e w' => ∃ (A B : List Py) (y : Py) (tr' : T) (lk' : Int), e = .returned (.int .i64 0) ∧ tr.ids = A ++ y :: B ∧ y.i = id ∧ tr'.ids = A ++ ⟨y.i, y.v, y.vs.set c x⟩ :: B ∧ Sim tr tr' ∧ FT D w' t mb tr' lk' ∧ lk < lk' ∧ lk' ≤ lk + 3 * tr.ht ∧ Mk D w w' := by
 have hw : (Lit.int .i64 id).wf = true := WalkArith.wf_i64 ⟨hi.1, hi.2⟩
 obtain ⟨C0, y0, s0, lT, r0, hpl, hy0⟩ := kv_focus tr (adr_some hq)
 have ok0 := plug_okC C0 (tr := .n k y0 s0 lT r0) (by rw [hpl]; exact h.ok)
 have hsz := plug_sz C0 (.n k y0 s0 lT r0)
 have hph := plug_ht C0 (.n k y0 s0 lT r0)
 rw [hpl] at hsz hph
 simp only [T.sz] at hsz
 have hph1 : 1 ≤ (T.n k y0 s0 lT r0).ht := by unfold T.ht; omega
 have hle := h.le
 have hl00 := h.l0
 have hhl := tr.ht_le
 have hcn := csz_nn C0; have hl0n := T.sz_nn lT; have hr0n := T.sz_nn r0
 obtain ⟨R, root, hS, hAp, hC, hR, hn⟩ := h.ts
 have hM := h.om
 have hix := pre_len C0
 have hDlt : ∀ j, D j → j < w.heap.size := fun j e => hS.lt e
 have hslt : ∀ b, ob mb.h = some b → b < w.heap.size := fun b e => hS.sc.lt e
 have hmlt := hM.lt
 obtain ⟨⟨hd1, hk⟩, hRl, hRr⟩ := (RS.at C0 (tr1 := .n k y0 s0 lT r0) (R := R) (root := root) (by rw [hpl]; exact ⟨hS, hAp, hC, hR, hn⟩)).rp
 have hvl : y0.vs.length = mb.sc.length := (hS.sv k _ hk).2.1
 have hcl : c < y0.vs.length := by omega
 have qc : (decide (0 ≤ (c : Int)) && decide ((c : Int) < (mb.sc.length : Int))) = true := by simp only [Bool.and_eq_true, decide_eq_true_eq]; omega
 have hsim : Sim tr (plug C0 (.n k ⟨y0.i, y0.v, y0.vs.set c x⟩ s0 lT r0)) := by
  rw [← hpl]; exact Sim.plug C0 ⟨rfl, rfl, rfl, Sim.same _, Sim.same _⟩
 obtain ⟨sa1, sa2, sa3, sa4, sa5, sa6, sa7⟩ := hsim.all
 have hyz : ∀ d, d ≠ c → y0.vs.getD d v0 = (y0.vs.set c x).getD d v0 := fun d hd => by
  rw [List.getD_eq_getElem?_getD, List.getD_eq_getElem?_getD, List.getElem?_set_ne (Ne.symm hd)]
 have hnd : (adC C0 ++ (T.n k y0 s0 lT r0).ad).Nodup := (RS.at C0 (tr1 := .n k y0 s0 lT r0) (R := R) (root := root) (by rw [hpl]; exact ⟨hS, hAp, hC, hR, hn⟩)).nd
 have hkC : k ∉ adC C0 := fun m => (nd_pos hnd).2.2 k m (by unfold T.ad; simp)
 have hkl : k ∉ lT.ad ∧ k ∉ r0.ad := by
  have := (nd_pos hnd).2.1
  unfold T.ad at this
  have := (List.nodup_cons.1 this).1
  simp only [List.mem_append, not_or] at this
  exact this
 have hU : Mu mb.sc c (ud R k ⟨top C0, lT.p, r0.p, s0, ⟨y0.i, y0.v, y0.vs.set c x⟩, hd1, agg mb.sc (lT.ids ++ y0 :: r0.ids)⟩) root (plug C0 (.n k ⟨y0.i, y0.v, y0.vs.set c x⟩ s0 lT r0)) (C0.length + 1) (some k) :=
  ⟨C0, ⟨y0.i, y0.v, y0.vs.set c x⟩, s0, lT, r0, hd1, _, rfl, rfl, ud_same _ _ _, Alm.of hyz, hRl.ud hkl.1, hRr.ud hkl.2, RepU.of hyz C0 (tr := .n k y0 s0 lT r0) (A := lT.ids) (B := r0.ids) (by rw [hpl]; exact hC) (by rw [hpl]; exact hR) rfl rfl rfl hkC, hnd⟩
 obtain ⟨b, off, cap, hh, hb9, hf9, hr9, hob⟩ := (hS.sv k _ hk).1.ix (i := c) (cs := V10.cells y0.vs[c]) (by rw [List.getElem?_map, List.getElem?_eq_getElem hcl]; rfl)
 rw [List.length_map] at hh
 refine w_enter 37 Try.func17 Try.ntmps17 rfl rfl ?_
 have M : Mk D w w := Mk.refl _ _
 refine w_seq (w_reg ?_)
 refine wl_box 55 (.tmp 3) (V10.v x) (((V10.cells x).toArray)) rfl rfl (fun _ => by kernel_rfl) rfl ?_
 intro k1 w1 hk9 hz hq Q1
 have hMs := M.size
 have N_k1 : w.heap.size ≤ k1 := by omega
 have nd_k1 : ¬ D k1 := fun e => by have := hDlt _ e; omega
 have ns_k1 : ∀ b, ob mb.h = some b → b ≠ k1 := fun b hb => by have := hslt b hb; omega
 have nm_k1 : k1 ≠ mb.m := by omega
 replace hS := hS.mo hq
 replace hM := hM.mo hq
 replace M := M.trans hq
 clear hk9 hz hq hMs
 refine wl_m (.const (.int .i64 (0))) (.int .i64 (0)) ?_
 refine w_nil (xn_then (w_seq (w_seq (w_reg ?_))))
 refine wl_m (.tmp 0) (pt t 0) ?_
 refine wl_call 30 [(.tmp 10)] _ [pt t 0] (.bool true) rfl rfl (fun _ _ => by kernel_rfl) (made_n hS) rfl ?_
 intro w2 hq
 replace Q1 := Q1.mo hq
 replace hS := hS.mo hq
 replace hM := hM.mo hq
 replace M := M.trans hq
 clear hq
 refine wl_un (fun v => Op.unary .not v) (.tmp 11) (.bool true) (.bool false) (fun _ => rfl) rfl (by kernel_rfl) rfl ?_
 refine w_nil (xn_then (w_condF rfl (w_skip (xn_then (w_seq (w_seq (w_reg ?_)))))))
 refine wl_m (.tmp 0) (pt t 0) ?_
 refine wl_m (.tmp 2) (.int .i64 ((c : Nat) : Int)) ?_
 refine wl_call 32 [(.tmp 13), (.tmp 14)] _ [pt t 0, .int .i64 ((c : Nat) : Int)] (.bool true) rfl rfl (fun _ _ => by kernel_rfl) (by have := has_n hS (c : Int); rw [qc] at this; exact this) rfl ?_
 intro w3 hq
 replace Q1 := Q1.mo hq
 replace hS := hS.mo hq
 replace hM := hM.mo hq
 replace M := M.trans hq
 clear hq
 refine wl_un (fun v => Op.unary .not v) (.tmp 15) (.bool true) (.bool false) (fun _ => rfl) rfl (by kernel_rfl) rfl ?_
 refine w_nil (xn_then (w_condF rfl (w_skip (xn_then (w_seq (w_reg ?_))))))
 refine wl_m (.tmp 0) (pt t 0) ?_
 refine wl_nc (.tmp 17) t 0 rfl rfl rfl ?_
 refine wl_f 68 2 (.tmp 18) (pt t 0) (pt t 2) ?_
 refine wl_l 66 (.tmp 19) (pt t 2) (.map (some mb.m)) (run_one hS.tr 66 2 rfl Try.underlying66 rfl) ?_
 refine wl_m (.tmp 1) (.int .i64 (id)) ?_
 refine wl_bin (fun x y => Instr.lookup 66 x y false) (.tmp 20) (.tmp 21) (.map (some mb.m)) (.int .i64 (id)) (pt k 0) (fun _ => rfl) rfl rfl (by have := hM.look hw; rw [hq] at this; exact this) rfl ?_
 refine wl_m (.tmp 22) (pt k 0) ?_
 refine w_nil (xn_then (w_seq (w_seq (w_reg ?_))))
 refine wl_m (.tmp 9) (pt k 0) ?_
 refine wl_b .eql 65 (.tmp 23) (.const (.pointer none)) (pt k 0) (pp none) (.bool false) (eqP (some k) _ _ _) ?_
 refine w_nil (xn_then (w_condF rfl (w_skip (xn_then (w_seq ?_)))))
 refine w_any 8 [.inl (pt k 0), .inl (pt k 0), .inl (pt k 0), .inl (pt k 1), .inl (y0.v), .inl (.int .i64 ((c : Nat) : Int)), .inl (V10.v x), .inl (pt b (off + c * 10))] [] (by kernel_rfl) (by kernel_rfl) (by kernel_rfl) (by kernel_rfl) rfl (by kernel_rfl) (by kernel_rfl) late_nil ?_ ?_ ?_
 ·exact Ds.none rfl
 ·refine ea_cons ?_ (ea_cons ?_ (ea_cons ?_ (ea_cons ?_ (ea_cons ?_ (ea_cons ?_ (ea_cons ?_ (ea_cons ?_ (ea_nil))))))))
  ·exact og_eq _ rfl (fun f wf hq hd K hK => go_run rfl (wo_mv (.tmp 9) (pt k 0) (fun _ => rfl) rfl (hK _ (Mo.refl _))))
  ·exact og_eq _ rfl (fun f wf hq hd K hK => go_run rfl (wo_nc (.tmp 25) k 0 rfl (hd 0 rfl) (hK _ (Mo.refl _))))
  ·exact og_eq _ rfl (fun f wf hq hd K hK => go_run rfl (wo_un (fun v => Instr.fieldAt 93 v 0) (.tmp 26) (pt k 0) (pt k 0) (fun _ => rfl) (hd 1 rfl) (by kernel_rfl) (hK _ (Mo.refl _))))
  ·exact og_eq _ rfl (fun f wf hq hd K hK => go_run rfl (wo_un (fun v => Instr.fieldAt 83 v 1) (.tmp 27) (pt k 0) (pt k 1) (fun _ => rfl) (hd 2 rfl) (by kernel_rfl) (hK _ (Mo.refl _))))
  ·exact og_eq _ rfl (fun f wf hq hd K hK => have hS := hS.mo hq; go_run rfl (wo_load 29 (.tmp 28) (pt k 1) (y0.v) rfl (hd 3 rfl) (run_one (hS.rc k _ hk) 29 1 rfl Try.underlying29 rfl) (hK _ (Mo.refl _))))
  ·exact og_eq _ rfl (fun f wf hq hd K hK => go_run rfl (wo_mv (.tmp 2) (.int .i64 ((c : Nat) : Int)) (fun _ => rfl) rfl (hK _ (Mo.refl _))))
  ·exact og_eq _ rfl (fun f wf hq hd K hK => have Q1 := Q1.mo hq; go_run rfl (wo_load 55 (.tmp 7) (pt k1 0) (V10.v x) rfl rfl (run_row Q1 55 0 10 (V10.cells x) rfl Try.underlying55 rfl zs55) (hK _ (Mo.refl _))))
  ·exact og_eq _ rfl (fun f wf hq hd K hK => go_run rfl (wo_bin (fun x y => Instr.indexAt 29 x y) (.tmp 29) (.tmp 30) (y0.v) (.int .i64 ((c : Nat) : Int)) (pt b (off + c * 10)) (fun _ => rfl) (hd 4 rfl) (hd 5 rfl) (by show (Instr.indexAt 29 y0.v _).run _ _ = _; rw [show y0.v = _ from hh]; exact ix29 b off c _ _ hcl _) (hK _ (Mo.refl _))))
 intro kf4 w4 hq _ _
 replace Q1 := Q1.mo hq
 replace hS := hS.mo hq
 replace hM := hM.mo hq
 replace M := M.trans hq
 clear hq
 have hth := (hS.sv k _ hk).1.there (i := c) (by rw [List.length_map]; exact hh) (by rw [List.length_map]; exact hcl) (fun y hy => by obtain ⟨z, _, rfl⟩ := List.mem_map.1 hy; rfl)
 refine wl_stm 55 (.tmp 32) (.tmp 31) b (off + c * 10) x.cells.toArray hth rfl rfl rfl rfl zs55 (by rw [← Array.all_toList]; rfl) rfl ?_
 have hMk := (Mk.refl D _).st (St2.mk2 w4 b (off + c * 10) x.cells) (hS.ds hk (Or.inl hob)).1
 have hS2 := hS.val hAp hk hcl x hx hh
 obtain ⟨w5, hw9⟩ : ∃ W, W = w4.setCells b (off + c * 10) x.cells := ⟨_, rfl⟩
 rw [← hw9] at hMk hS2
 show WL _ _ _ _ _ _ (w4.setCells b (off + c * 10) x.cells)
 rw [← hw9]
 replace Q1 := hMk.at Q1 nd_k1
 replace hM := hM.mk hMk hS.nb
 replace M := M.same hMk
 replace hS := hS2
 replace hAp := hAp.wr hk (r' := ⟨top C0, lT.p, r0.p, s0, ⟨y0.i, y0.v, y0.vs.set c x⟩, hd1, agg mb.sc (lT.ids ++ y0 :: r0.ids)⟩) rfl rfl
 clear hMk hS2 hw9 hth
 refine w_nil (xn_then (w_seq (w_reg ?_)))
 refine wl_m (.tmp 0) (pt t 0) ?_
 refine wl_m (.tmp 9) (pt k 0) ?_
 refine wl_m (.tmp 2) (.int .i64 ((c : Nat) : Int)) ?_
 refine wl_callg 39 [(.tmp 33), (.tmp 34), (.tmp 35)] _ [pt t 0, pt k 0, .int .i64 ((c : Nat) : Int)] (.tuple #[]) rfl rfl (fun _ _ => by kernel_rfl) (mendUp_n (some k) hS hAp hU hc h.l0 (by omega)) rfl ?_
 intro w6 hF
 obtain ⟨R2, lk2, hS2, hA2, hU2, hl1, hl2, hl3, hM2⟩ := hF
 replace Q1 := hM2.at Q1 nd_k1
 replace hM := hM.mk hM2 hS.nb
 replace hS := hS2
 replace M := M.same hM2
 clear hS2 hM2
 refine w_nil (xn_then (w_seq (w_reg ?_)))
 refine wl_m (.const (.int .i64 (0))) (.int .i64 (0)) ?_
 refine w_nil (xn_then (w_ret ?_))
 exact w_ret1 _ (.int .i64 (0)) rfl rfl ⟨preR C0 ++ lT.ids, r0.ids ++ posR C0, y0, plug C0 (.n k ⟨y0.i, y0.v, y0.vs.set c x⟩ s0 lT r0), lk2, rfl, by rw [← hpl, plug_rows]; simp [T.ids], hy0, by rw [plug_rows]; simp [T.ids], hsim, ⟨⟨R2, root, hS, hA2, hU2.1, hU2.2.1, by rw [← sa2]; exact hn⟩, by rw [← sa5]; exact hM, sa6 h.ok, by rw [← T.kv_ids, ← sa5, T.kv_ids]; exact h.nd, by rw [← T.kv_ids, ← sa5, T.kv_ids]; exact h.rg, by rw [← sa3]; exact h.le, by omega, h.hm⟩, hl3 (by omega), by omega, M⟩
end
end G
end Go.Proofs.Ythfemlhmnjfjiaa
/-
 outermost, next: the places in order.
-/
namespace Go.Proofs.Ythfemlhmnjfjiaa
open Go.RowKit
namespace G
def lm : T → Option Nat
 | .e => none
 | .n k _ _ l _ => match lm l with
  | none => some k
  | some j => some j
theorem lm_none {tr : T} (h : lm tr = none) : tr = .e := by
 cases tr with
 | e => rfl
 | n k i s l r => unfold lm at h; split at h <;> cases h
theorem lm_l (k : Nat) (i : Py) (s : Int) (l r : T) (h : l ≠ .e) : lm (.n k i s l r) = lm l := by
 conv => lhs; unfold lm
 cases hl : lm l with
 | none => exact absurd (lm_none hl) h
 | some j => rfl
theorem lm_kv : ∀ tr : T, lm tr = (tr.kv.head?).map (·.2)
 | .e => rfl
 | .n k i s l r => by
  have ih := lm_kv l
  unfold lm T.kv
  cases hl : lm l with
  | none => have := lm_none hl; subst this; simp [T.kv]
  | some j =>
   rw [hl] at ih
   cases hk : l.kv with
   | nil => rw [hk] at ih; cases ih
   | cons x y => rw [hk] at ih; simpa using ih
def upL : Cx → Option Nat
 | [] => none
 | f :: C => if f.d then upL C else some f.k
section
variable {D : Nat → Prop} {w : World} {t : Nat} {mb : Hd} {R : Mp} {root : Option Nat} {lk : Int}
theorem outer_n (hS : HS D w t mb R root lk) {u : Option Nat} {tr : T} (hR : Rep mb.sc R u tr) : Calls Try.prog 70 #[pp tr.p, .int .i64 0] w fun e w' => e = .returned (pp (lm tr)) ∧ Mo w w' := by
 refine w_enter 23 Try.func70 Try.ntmps70 rfl rfl ?_
 have M : Mo w w := Mo.refl _
 refine w_seq (w_reg ?_)
 refine wl_m (.const (.pointer none)) (pp none) ?_
 refine w_nil (xn_then (w_seq (w_block ?_)))
 refine w_loop (fun m l0 w1 => ∃ (u1 : Option Nat) (tr1 : T), m = tr1.ht ∧ look l0 0 = pp tr1.p ∧ look l0 1 = .int .i64 (0) ∧ Rep mb.sc R u1 tr1 ∧ lm tr1 = lm tr ∧ HS D w1 t mb R root lk ∧ Mo w w1) _ ⟨u, tr, rfl, rfl, rfl, hR, rfl, hS, M⟩ ?_
 clear M hS
 rintro m l1 w1 ⟨u1, tr1, rfl, e0, e1, hR1, hlm, hS, M⟩
 cases tr1 with
 | e =>
  refine w_seq (w_seq (w_reg ?_))
  refine wl_mv (.tmp 0) (pp none) (fun _ => rfl) e0 rfl ?_
  refine wl_b .neq 65 (.tmp 5) (.const (.pointer none)) (pp none) (pp none) (.bool false) (neP none _ _ _) ?_
  refine wl_m (.tmp 6) (.bool false) ?_
  refine wl_skip rfl (wl_skip rfl (wl_skip rfl (wl_skip rfl (wl_skip rfl (wl_skip rfl (wl_skip rfl ?_))))))
  refine wl_pick (.tmp 7) (.tmp 14) (.const (.bool false)) false (.bool false) (fun _ => rfl) rfl rfl rfl ?_
  refine w_nil (xn_then (w_condF rfl (w_exit (xx_then (xx_then (xx_blk (xn_then (w_seq (w_reg ?_)))))))))
  refine wl_mv (.tmp 0) (pp none) (fun _ => rfl) e0 rfl ?_
  refine wl_m (.tmp 22) (pp none) ?_
  refine w_nil (xn_then (w_ret ?_))
  exact w_ret1 _ (pp none) rfl rfl ⟨by rw [← hlm]; rfl, M⟩
 | n k i s a b =>
  obtain ⟨⟨hd1, hk⟩, ha, hb⟩ := hR1
  have e0 : look l1 0 = pt k 0 := e0
  cases a with
  | e =>
   refine w_seq (w_seq (w_reg ?_))
   refine wl_mv (.tmp 0) (pt k 0) (fun _ => rfl) e0 rfl ?_
   refine wl_b .neq 65 (.tmp 5) (.const (.pointer none)) (pt k 0) (pp none) (.bool true) (neP (some k) _ _ _) ?_
   refine wl_m (.tmp 6) (.bool true) ?_
   refine wl_mv (.tmp 0) (pt k 0) (fun _ => rfl) e0 rfl ?_
   refine wl_mv (.tmp 1) (.int .i64 (0)) (fun _ => rfl) e1 rfl ?_
   refine wl_nc (.tmp 8) k 0 rfl rfl rfl ?_
   refine wl_f 93 2 (.tmp 10) (pt k 0) (pt k 3) ?_
   refine wl_bin (fun x y => Instr.indexAt 91 x y) (.tmp 11) (.tmp 9) (pt k 3) (.int .i64 (0)) (pt k 3) (fun _ => rfl) rfl rfl (by kernel_rfl) rfl ?_
   refine wl_l 65 (.tmp 12) (pt k 3) (pp none) (run_one (hS.rc k _ hk) 65 3 rfl Try.underlying65 rfl) ?_
   refine wl_b .neq 65 (.tmp 13) (.const (.pointer none)) (pp none) (pp none) (.bool false) (neP none _ _ _) ?_
   refine wl_pick (.tmp 7) (.tmp 14) (.const (.bool false)) true (.bool false) (fun _ => rfl) rfl rfl rfl ?_
   refine w_nil (xn_then (w_condF rfl (w_exit (xx_then (xx_then (xx_blk (xn_then (w_seq (w_reg ?_)))))))))
   refine wl_mv (.tmp 0) (pt k 0) (fun _ => rfl) e0 rfl ?_
   refine wl_m (.tmp 22) (pt k 0) ?_
   refine w_nil (xn_then (w_ret ?_))
   exact w_ret1 _ (pt k 0) rfl rfl ⟨by rw [← hlm]; rfl, M⟩
  | n ak ai az al ar =>
   refine w_seq (w_seq (w_reg ?_))
   refine wl_mv (.tmp 0) (pt k 0) (fun _ => rfl) e0 rfl ?_
   refine wl_b .neq 65 (.tmp 5) (.const (.pointer none)) (pt k 0) (pp none) (.bool true) (neP (some k) _ _ _) ?_
   refine wl_m (.tmp 6) (.bool true) ?_
   refine wl_mv (.tmp 0) (pt k 0) (fun _ => rfl) e0 rfl ?_
   refine wl_mv (.tmp 1) (.int .i64 (0)) (fun _ => rfl) e1 rfl ?_
   refine wl_nc (.tmp 8) k 0 rfl rfl rfl ?_
   refine wl_f 93 2 (.tmp 10) (pt k 0) (pt k 3) ?_
   refine wl_bin (fun x y => Instr.indexAt 91 x y) (.tmp 11) (.tmp 9) (pt k 3) (.int .i64 (0)) (pt k 3) (fun _ => rfl) rfl rfl (by kernel_rfl) rfl ?_
   refine wl_l 65 (.tmp 12) (pt k 3) (pt ak 0) (run_one (hS.rc k _ hk) 65 3 rfl Try.underlying65 rfl) ?_
   refine wl_b .neq 65 (.tmp 13) (.const (.pointer none)) (pt ak 0) (pp none) (.bool true) (neP (some ak) _ _ _) ?_
   refine wl_pick (.tmp 7) (.tmp 14) (.const (.bool false)) true (.bool true) (fun _ => rfl) rfl rfl rfl ?_
   refine w_nil (xn_then (w_condT rfl (w_skip (xn_then (w_block (w_reg ?_))))))
   refine wl_mv (.tmp 0) (pt k 0) (fun _ => rfl) e0 rfl ?_
   refine wl_mv (.tmp 1) (.int .i64 (0)) (fun _ => rfl) e1 rfl ?_
   refine wl_nc (.tmp 16) k 0 rfl rfl rfl ?_
   refine wl_f 93 2 (.tmp 18) (pt k 0) (pt k 3) ?_
   refine wl_bin (fun x y => Instr.indexAt 91 x y) (.tmp 19) (.tmp 17) (pt k 3) (.int .i64 (0)) (pt k 3) (fun _ => rfl) rfl rfl (by kernel_rfl) rfl ?_
   refine wl_l 65 (.tmp 20) (pt k 3) (pt ak 0) (run_one (hS.rc k _ hk) 65 3 rfl Try.underlying65 rfl) ?_
   refine wl_m (.tmp 21) (pt ak 0) ?_
   refine w_nil (xn_blk ?_)
   exact xn_loop (T.n ak ai az al ar).ht (by simp only [T.ht]; have := Nat.le_max_left (T.n ak ai az al ar).ht b.ht; simp only [T.ht] at this; omega) ⟨some k, T.n ak ai az al ar, rfl, rfl, e1, ha, (lm_l _ _ _ _ _ (by intro e; cases e)).symm.trans hlm, hS, M⟩
theorem next_a (hS : HS D w t mb R root lk) {u : Option Nat} {k rk : Nat} {i ri : Py} {s rz : Int} {l ra rb : T} {hd1 : Value} {cs : List Sm} (hk : R k = some ⟨u, l.p, some rk, s, i, hd1, cs⟩) (hb : Rep mb.sc R (some k) (T.n rk ri rz ra rb)) : Calls Try.prog 71 #[pt k 0] w fun e w' => e = .returned (pp (lm (T.n rk ri rz ra rb))) ∧ Mo w w' := by
 refine w_enter 26 Try.func71 Try.ntmps71 rfl rfl ?_
 have M : Mo w w := Mo.refl _
 refine w_seq (w_reg ?_)
 refine wl_m (.const (.pointer none)) (pp none) ?_
 refine w_nil (xn_then (w_seq (w_seq (w_reg ?_))))
 refine wl_m (.tmp 0) (pt k 0) ?_
 refine wl_nc (.tmp 3) k 0 rfl rfl rfl ?_
 refine wl_f 93 2 (.tmp 4) (pt k 0) (pt k 3) ?_
 refine wl_bin (fun x y => Instr.indexAt 91 x y) (.tmp 5) (.const (.int .i64 (1))) (pt k 3) (.int .i64 (1)) (pt k 4) (fun _ => rfl) rfl rfl (by kernel_rfl) rfl ?_
 refine wl_l 65 (.tmp 6) (pt k 4) (pt rk 0) (run_one (hS.rc k _ hk) 65 4 rfl Try.underlying65 rfl) ?_
 refine wl_b .neq 65 (.tmp 7) (.const (.pointer none)) (pt rk 0) (pp none) (.bool true) (neP (some rk) _ _ _) ?_
 refine w_nil (xn_then (w_condT rfl (w_seq (w_reg ?_))))
 refine wl_m (.tmp 0) (pt k 0) ?_
 refine wl_nc (.tmp 9) k 0 rfl rfl rfl ?_
 refine wl_f 93 2 (.tmp 10) (pt k 0) (pt k 3) ?_
 refine wl_bin (fun x y => Instr.indexAt 91 x y) (.tmp 11) (.const (.int .i64 (1))) (pt k 3) (.int .i64 (1)) (pt k 4) (fun _ => rfl) rfl rfl (by kernel_rfl) rfl ?_
 refine wl_l 65 (.tmp 12) (pt k 4) (pt rk 0) (run_one (hS.rc k _ hk) 65 4 rfl Try.underlying65 rfl) ?_
 refine wl_call 70 [(.tmp 13), (.const (.int .i64 (0)))] _ [pt rk 0, .int .i64 (0)] (pp (lm (T.n rk ri rz ra rb))) rfl rfl (fun _ _ => by kernel_rfl) (outer_n hS hb) rfl ?_
 intro w1 hq
 replace hS := hS.mo hq
 replace M := M.trans hq
 clear hq
 refine wl_m (.tmp 14) (pp (lm (T.n rk ri rz ra rb))) ?_
 refine w_nil (xn_then (w_ret (xr_then ?_)))
 exact w_ret1 _ _ rfl rfl ⟨rfl, M⟩
theorem next_b {C : Cx} {k : Nat} {i : Py} {s : Int} {l : T} (hT : RS D w t mb [] (plug C (T.n k i s l .e)) lk R root) : Calls Try.prog 71 #[pt k 0] w fun e w' => e = .returned (pp (upL C)) ∧ Mo w w' := by
 obtain ⟨hS, hA, hC, hR, hn⟩ := hT
 obtain ⟨⟨hd1, hk⟩, _, _⟩ := (RS.at C (tr1 := T.n k i s l .e) (R := R) (root := root) ⟨hS, hA, hC, hR, hn⟩).rp
 refine w_enter 26 Try.func71 Try.ntmps71 rfl rfl ?_
 have M : Mo w w := Mo.refl _
 refine w_seq (w_reg ?_)
 refine wl_m (.const (.pointer none)) (pp none) ?_
 refine w_nil (xn_then (w_seq (w_seq (w_reg ?_))))
 refine wl_m (.tmp 0) (pt k 0) ?_
 refine wl_nc (.tmp 3) k 0 rfl rfl rfl ?_
 refine wl_f 93 2 (.tmp 4) (pt k 0) (pt k 3) ?_
 refine wl_bin (fun x y => Instr.indexAt 91 x y) (.tmp 5) (.const (.int .i64 (1))) (pt k 3) (.int .i64 (1)) (pt k 4) (fun _ => rfl) rfl rfl (by kernel_rfl) rfl ?_
 refine wl_l 65 (.tmp 6) (pt k 4) (pp none) (run_one (hS.rc k _ hk) 65 4 rfl Try.underlying65 rfl) ?_
 refine wl_b .neq 65 (.tmp 7) (.const (.pointer none)) (pp none) (pp none) (.bool false) (neP none _ _ _) ?_
 refine w_nil (xn_then (w_condF rfl (w_skip (xn_then (w_seq (w_block ?_))))))
 refine w_loop (fun m l0 w1 => ∃ (C1 : Cx) (k1 : Nat) (i1 : Py) (s1 : Int) (a1 b1 : T), m = C1.length ∧ look l0 0 = pt k1 0 ∧ plug C1 (T.n k1 i1 s1 a1 b1) = plug C (T.n k i s l .e) ∧ HS D w1 t mb R root lk ∧ upL C1 = upL C ∧ Mo w w1) _ ⟨C, k, i, s, l, .e, rfl, rfl, rfl, hS, rfl, M⟩ ?_
 clear M hS hk
 rintro m l1 w1 ⟨C1, k1, i1, s1, a1, b1, rfl, e0, hpl, hS, hup, M⟩
 obtain ⟨_, _, hC1, ⟨⟨hd1, hk⟩, _, _⟩, hn1⟩ := RS.at C1 (tr1 := T.n k1 i1 s1 a1 b1) (R := R) (root := root) (by rw [hpl]; exact ⟨hS, hA, hC, hR, hn⟩)
 have n1 := nd_pos hn1
 have hnk : k1 ∉ adC C1 := fun q => n1.2.2 k1 q (by unfold T.ad; simp)
 have hsd := fun w9 (m9 : Mo w1 w9) => side_c (hS.mo m9) hC1 hk hnk
 cases C1 with
 | nil =>
  refine w_seq (w_seq (w_reg ?_))
  refine wl_mv (.tmp 0) (pt k1 0) (fun _ => rfl) e0 rfl ?_
  refine wl_call 53 [(.tmp 15)] _ [pt k1 0] (.int .i64 (0)) rfl rfl (fun _ _ => by kernel_rfl) (hsd _ (Mo.refl _)) rfl ?_
  intro w11 hq
  replace hS := hS.mo hq
  replace M := M.trans hq
  clear hq
  refine wl_b .eql 3 (.tmp 16) (.const (.int .i64 (1))) (.int .i64 (0)) (.int .i64 (1)) (.bool false) (by kernel_rfl) ?_
  refine w_nil (xn_then (w_condF rfl (w_exit (xx_then (xx_then (xx_blk (xn_then (w_seq (w_reg ?_)))))))))
  refine wl_mv (.tmp 0) (pt k1 0) (fun _ => rfl) e0 rfl ?_
  refine wl_nc (.tmp 22) k1 0 rfl rfl rfl ?_
  refine wl_f 93 1 (.tmp 23) (pt k1 0) (pt k1 2) ?_
  refine wl_l 65 (.tmp 24) (pt k1 2) (pp none) (run_one (hS.rc k1 _ hk) 65 2 rfl Try.underlying65 rfl) ?_
  refine wl_m (.tmp 25) (pp none) ?_
  refine w_nil (xn_then (w_ret ?_))
  exact w_ret1 _ (pp none) rfl rfl ⟨by rw [← hup]; rfl, M⟩
 | cons f C2 =>
  obtain ⟨fk, fi, fs, fd, fo⟩ := f
  cases fd with
  | false =>
   refine w_seq (w_seq (w_reg ?_))
   refine wl_mv (.tmp 0) (pt k1 0) (fun _ => rfl) e0 rfl ?_
   refine wl_call 53 [(.tmp 15)] _ [pt k1 0] (.int .i64 (0)) rfl rfl (fun _ _ => by kernel_rfl) (hsd _ (Mo.refl _)) rfl ?_
   intro w11 hq
   replace hS := hS.mo hq
   replace M := M.trans hq
   clear hq
   refine wl_b .eql 3 (.tmp 16) (.const (.int .i64 (1))) (.int .i64 (0)) (.int .i64 (1)) (.bool false) (by kernel_rfl) ?_
   refine w_nil (xn_then (w_condF rfl (w_exit (xx_then (xx_then (xx_blk (xn_then (w_seq (w_reg ?_)))))))))
   refine wl_mv (.tmp 0) (pt k1 0) (fun _ => rfl) e0 rfl ?_
   refine wl_nc (.tmp 22) k1 0 rfl rfl rfl ?_
   refine wl_f 93 1 (.tmp 23) (pt k1 0) (pt k1 2) ?_
   refine wl_l 65 (.tmp 24) (pt k1 2) (pt fk 0) (run_one (hS.rc k1 _ hk) 65 2 rfl Try.underlying65 rfl) ?_
   refine wl_m (.tmp 25) (pt fk 0) ?_
   refine w_nil (xn_then (w_ret ?_))
   exact w_ret1 _ (pt fk 0) rfl rfl ⟨by rw [← hup]; rfl, M⟩
  | true =>
   refine w_seq (w_seq (w_reg ?_))
   refine wl_mv (.tmp 0) (pt k1 0) (fun _ => rfl) e0 rfl ?_
   refine wl_call 53 [(.tmp 15)] _ [pt k1 0] (.int .i64 (1)) rfl rfl (fun _ _ => by kernel_rfl) (hsd _ (Mo.refl _)) rfl ?_
   intro w11 hq
   replace hS := hS.mo hq
   replace M := M.trans hq
   clear hq
   refine wl_b .eql 3 (.tmp 16) (.const (.int .i64 (1))) (.int .i64 (1)) (.int .i64 (1)) (.bool true) (by kernel_rfl) ?_
   refine w_nil (xn_then (w_condT rfl (w_skip (xn_then (w_block (w_reg ?_))))))
   refine wl_mv (.tmp 0) (pt k1 0) (fun _ => rfl) e0 rfl ?_
   refine wl_nc (.tmp 18) k1 0 rfl rfl rfl ?_
   refine wl_f 93 1 (.tmp 19) (pt k1 0) (pt k1 2) ?_
   refine wl_l 65 (.tmp 20) (pt k1 2) (pt fk 0) (run_one (hS.rc k1 _ hk) 65 2 rfl Try.underlying65 rfl) ?_
   refine wl_m (.tmp 21) (pt fk 0) ?_
   refine w_nil (xn_blk ?_)
   exact xn_loop C2.length (by simp) ⟨C2, fk, fi, fs, fo, T.n k1 i1 s1 a1 b1, rfl, rfl, by rw [← hpl]; rfl, hS, by rw [← hup]; rfl, M⟩
theorem upL_pos : ∀ C : Cx, upL C = ((posC C).head?).map (·.2)
 | [] => rfl
 | f :: C => by
  unfold upL posC
  cases f.d with
  | true => simpa using upL_pos C
  | false => rfl
theorem idx_once {L : List (Int × Nat)} (hn : (L.map (·.1)).Nodup) {i j : Nat} {a b : Int × Nat} (hi : L[i]? = some a) (hj : L[j]? = some b) (h : a.1 = b.1) : i = j := by
 have h1 : (L.map (·.1))[i]? = some a.1 := by simp [hi]
 have h2 : (L.map (·.1))[j]? = some a.1 := by simp [hj, h]
 obtain ⟨p1, q1⟩ := List.getElem?_eq_some_iff.1 h1
 obtain ⟨p2, q2⟩ := List.getElem?_eq_some_iff.1 h2
 exact (List.getElem_inj hn).1 (q1.trans q2.symm)
theorem next_n {tr : T} (hT : RS D w t mb [] tr lk R root) (hnd : (tr.ids.map (·.i)).Nodup) {i : Nat} {x : Int × Nat} (hx : tr.kv[i]? = some x) :
  Calls Try.prog 71 #[pt x.2 0] w fun e w' => e = .returned (pp ((tr.kv[i + 1]?).map (·.2))) ∧ Mo w w' := by
 obtain ⟨id, k⟩ := x
 obtain ⟨C, y, s, l, r, rfl, rfl⟩ := kv_focus tr (List.mem_of_getElem? hx)
 have hT1 := RS.at C hT
 have hkv := plug_kv C (T.n k y s l r)
 have hat : ((plug C (T.n k y s l r)).kv)[(preC C ++ l.kv).length]? = some (y.i, k) := by
  rw [hkv, show (T.n k y s l r).kv = l.kv ++ (y.i, k) :: r.kv from rfl, ← List.append_assoc, List.append_assoc (preC C ++ l.kv), List.getElem?_append_right (Nat.le_refl _)]
  simp
 have hi := idx_once (by rw [T.kv_ids]; exact hnd) hx hat rfl
 have hnx : ((plug C (T.n k y s l r)).kv)[i + 1]? = (r.kv ++ posC C).head? := by
  rw [hi, hkv, show (T.n k y s l r).kv = l.kv ++ (y.i, k) :: r.kv from rfl, ← List.append_assoc, List.append_assoc (preC C ++ l.kv), List.getElem?_append_right (by omega)]
  rw [show (preC C ++ l.kv).length + 1 - (preC C ++ l.kv).length = 1 by omega, List.cons_append, List.getElem?_cons_succ, ← List.head?_eq_getElem?]
 rw [hnx]
 cases r with
 | e =>
  have h := next_b hT
  rw [upL_pos] at h
  exact h
 | n rk ri rz ra rb =>
  obtain ⟨hS, hA, hC, hR, hn⟩ := hT1
  obtain ⟨hd1, hk1⟩ := hR.1
  have h := next_a hS hk1 hR.2.2
  rw [lm_kv] at h
  have e : ((T.n rk ri rz ra rb).kv ++ posC C).head? = (T.n rk ri rz ra rb).kv.head? := by
   cases hq : (T.n rk ri rz ra rb).kv with
   | nil => simp [T.kv] at hq
   | cons a b => rfl
  rw [e]
  exact h
end
end G
end Go.Proofs.Ythfemlhmnjfjiaa
/-
 The document's Bits and OfInt; num.
-/
namespace Go.Proofs.Ythfemlhmnjfjiaa
open Go.RowKit
namespace G
section
variable {w : World}
theorem zs40 : (Try.prog.info? 40).map (·.size) = some 6 := by kernel_rfl
theorem cvU {n m : Int} (h : IntKind.u64.wrap n = m) (w : World) : (convert 2 34 (.int .i64 n)).run Try.prog w = .ok (.int .u64 m) w := by
 subst h; kernel_rfl
theorem sbU {n m : Int} (h : IntKind.u64.wrap (0 - n) = m) (x y : Operand) (w : World) : (do eqGuard .sub 34 x y (.int .u64 0) (.int .u64 n); binOp .sub 34 (.int .u64 0) (.int .u64 n)).run Try.prog w = .ok (.int .u64 m) w := by
 subst h; kernel_rfl
theorem ofint_p {n s : Int} (hn : -9223372036854775808 ≤ n ∧ n ≤ 9223372036854775807) (q0 : decide (n < 0) = false) (q1 : decide (s < 0) = false) (q2 : decide (18 < s) = false) : Calls Try.prog 45 #[.int .i64 n, .int .i64 s] w fun e w' => e = .returned (.tuple #[.agg #[.bool false, .int .u64 (l0 (n)), .int .u64 (l1 (n)), .int .u64 (l2 (n)), .int .u64 (l3 (n)), .int .i64 (s)], .int .i64 0]) ∧ Mo w w' := by
 have hq0 := of_decide_eq_false q0
 refine w_enter 26 Try.func45 Try.ntmps45 rfl rfl ?_
 have M : Mo w w := Mo.refl _
 refine w_seq (w_reg ?_)
 refine wl_alloc 40 #[.bool false, .int .u64 0, .int .u64 0, .int .u64 0, .int .u64 0, .int .i64 0] rfl (fun _ => by kernel_rfl) rfl ?_
 intro k1 w1 hk hz hq Q1
 have N_k1 : w.heap.size ≤ k1 := by have := M.size; omega
 replace M := M.trans hq
 clear hk hz hq
 refine wl_m (.const (.int .i64 (0))) (.int .i64 (0)) ?_
 refine w_nil (xn_then (w_seq (w_seq (w_reg ?_))))
 refine wl_m (.tmp 1) (.int .i64 (s)) ?_
 refine wl_b .lss 3 (.tmp 7) (.const (.int .i64 (0))) (.int .i64 (s)) (.int .i64 (0)) (.bool false) (ltI q1 _ _ _) ?_
 refine wl_m (.tmp 8) (.bool false) ?_
 refine wl_m (.tmp 1) (.int .i64 (s)) ?_
 refine wl_b .gtr 3 (.tmp 10) (.const (.int .i64 (18))) (.int .i64 (s)) (.int .i64 (18)) (.bool false) (gtI q2 _ _ _) ?_
 refine wl_pick (.tmp 9) (.const (.bool true)) (.tmp 11) false (.bool false) (fun _ => rfl) rfl rfl rfl ?_
 refine w_nil (xn_then (w_condF rfl (w_skip (xn_then (w_seq (w_reg ?_))))))
 refine wl_m (.tmp 0) (.int .i64 (n)) ?_
 refine wl_un (fun v => convert 2 34 v) (.tmp 14) (.int .i64 (n)) (.int .u64 (n)) (fun _ => rfl) rfl (cvU (by rw [IntKind.wrap_u64]; omega) _) rfl ?_
 refine wl_m (.tmp 15) (.int .u64 (n)) ?_
 refine w_nil (xn_then (w_seq (w_seq (w_reg ?_))))
 refine wl_m (.tmp 0) (.int .i64 (n)) ?_
 refine wl_b .lss 2 (.tmp 16) (.const (.int .i64 (0))) (.int .i64 (n)) (.int .i64 (0)) (.bool false) (ltL q0 _ _ _) ?_
 refine w_nil (xn_then (w_condF rfl (w_skip (xn_then (w_seq (w_reg ?_))))))
 refine wl_m (.tmp 0) (.int .i64 (n)) ?_
 refine wl_b .lss 2 (.tmp 20) (.const (.int .i64 (0))) (.int .i64 (n)) (.int .i64 (0)) (.bool false) (ltL q0 _ _ _) ?_
 refine wl_m (.tmp 6) (.int .u64 (n)) ?_
 refine wl_call 58 [(.tmp 22)] _ [.int .u64 (n)] (.agg #[.int .u64 (l0 (n)), .int .u64 (l1 (n)), .int .u64 (l2 (n)), .int .u64 (l3 (n))]) rfl rfl (fun _ _ => by kernel_rfl) (from34_any (n) _ ⟨by omega, by omega⟩) rfl ?_
 intro w2 hq
 replace Q1 := Q1.mo hq
 replace M := M.trans hq
 clear hq
 refine wl_m (.tmp 1) (.int .i64 (s)) ?_
 refine wl_build 40 [(0, (.tmp 21)), (1, (.tmp 23)), (2, (.tmp 24))] [(0, .bool false), (1, .agg #[.int .u64 (l0 (n)), .int .u64 (l1 (n)), .int .u64 (l2 (n)), .int .u64 (l3 (n))]), (2, .int .i64 (s))] (.agg #[.bool false, .int .u64 (l0 (n)), .int .u64 (l1 (n)), .int .u64 (l2 (n)), .int .u64 (l3 (n)), .int .i64 (s)]) rfl rfl (by kernel_rfl) rfl ?_
 refine wl_st 40 (.tmp 4) (.tmp 25) k1 0 #[.bool false, .int .u64 (l0 (n)), .int .u64 (l1 (n)), .int .u64 (l2 (n)), .int .u64 (l3 (n)), .int .i64 (s)] _ [.bool false, .int .u64 (l0 (n)), .int .u64 (l1 (n)), .int .u64 (l2 (n)), .int .u64 (l3 (n)), .int .i64 (s)] Q1 rfl rfl rfl rfl rfl zs40 rfl rfl rfl ?_
 intro w3 hS Qn
 replace Q1 := Qn
 clear Qn
 replace M := hS.mo _ N_k1 M
 clear hS
 refine wl_m (.const (.int .i64 (0))) (.int .i64 (0)) ?_
 refine w_nil (xn_then (w_ret ?_))
 exact w_ret2 _ _ (.agg #[.bool false, .int .u64 (l0 (n)), .int .u64 (l1 (n)), .int .u64 (l2 (n)), .int .u64 (l3 (n)), .int .i64 (s)]) (.int .i64 (0)) rfl ⟨k1, rfl, (run_row Q1 40 0 6 _ rfl Try.underlying40 rfl zs40)⟩ rfl ⟨rfl, M⟩
theorem ofint_m {n s : Int} (hn : -9223372036854775808 ≤ n ∧ n ≤ 9223372036854775807) (q0 : decide (n < 0) = true) (q1 : decide (s < 0) = false) (q2 : decide (18 < s) = false) : Calls Try.prog 45 #[.int .i64 n, .int .i64 s] w fun e w' => e = .returned (.tuple #[.agg #[.bool true, .int .u64 (l0 (-n)), .int .u64 (l1 (-n)), .int .u64 (l2 (-n)), .int .u64 (l3 (-n)), .int .i64 (s)], .int .i64 0]) ∧ Mo w w' := by
 have hq0 := of_decide_eq_true q0
 refine w_enter 26 Try.func45 Try.ntmps45 rfl rfl ?_
 have M : Mo w w := Mo.refl _
 refine w_seq (w_reg ?_)
 refine wl_alloc 40 #[.bool false, .int .u64 0, .int .u64 0, .int .u64 0, .int .u64 0, .int .i64 0] rfl (fun _ => by kernel_rfl) rfl ?_
 intro k1 w1 hk hz hq Q1
 have N_k1 : w.heap.size ≤ k1 := by have := M.size; omega
 replace M := M.trans hq
 clear hk hz hq
 refine wl_m (.const (.int .i64 (0))) (.int .i64 (0)) ?_
 refine w_nil (xn_then (w_seq (w_seq (w_reg ?_))))
 refine wl_m (.tmp 1) (.int .i64 (s)) ?_
 refine wl_b .lss 3 (.tmp 7) (.const (.int .i64 (0))) (.int .i64 (s)) (.int .i64 (0)) (.bool false) (ltI q1 _ _ _) ?_
 refine wl_m (.tmp 8) (.bool false) ?_
 refine wl_m (.tmp 1) (.int .i64 (s)) ?_
 refine wl_b .gtr 3 (.tmp 10) (.const (.int .i64 (18))) (.int .i64 (s)) (.int .i64 (18)) (.bool false) (gtI q2 _ _ _) ?_
 refine wl_pick (.tmp 9) (.const (.bool true)) (.tmp 11) false (.bool false) (fun _ => rfl) rfl rfl rfl ?_
 refine w_nil (xn_then (w_condF rfl (w_skip (xn_then (w_seq (w_reg ?_))))))
 refine wl_m (.tmp 0) (.int .i64 (n)) ?_
 refine wl_un (fun v => convert 2 34 v) (.tmp 14) (.int .i64 (n)) (.int .u64 (18446744073709551616 + n)) (fun _ => rfl) rfl (cvU (by rw [IntKind.wrap_u64]; omega) _) rfl ?_
 refine wl_m (.tmp 15) (.int .u64 (18446744073709551616 + n)) ?_
 refine w_nil (xn_then (w_seq (w_seq (w_reg ?_))))
 refine wl_m (.tmp 0) (.int .i64 (n)) ?_
 refine wl_b .lss 2 (.tmp 16) (.const (.int .i64 (0))) (.int .i64 (n)) (.int .i64 (0)) (.bool true) (ltL q0 _ _ _) ?_
 refine w_nil (xn_then (w_condT rfl (w_reg ?_)))
 refine wl_m (.tmp 6) (.int .u64 (18446744073709551616 + n)) ?_
 refine wl_b .sub 34 (.const (.int .u64 (0))) (.tmp 18) (.int .u64 (0)) (.int .u64 (18446744073709551616 + n)) (.int .u64 (-n)) (sbU (by rw [IntKind.wrap_u64]; omega) _ _ _) ?_
 refine wl_m (.tmp 19) (.int .u64 (-n)) ?_
 refine w_nil (xn_then (w_seq (w_reg ?_)))
 refine wl_m (.tmp 0) (.int .i64 (n)) ?_
 refine wl_b .lss 2 (.tmp 20) (.const (.int .i64 (0))) (.int .i64 (n)) (.int .i64 (0)) (.bool true) (ltL q0 _ _ _) ?_
 refine wl_m (.tmp 6) (.int .u64 (-n)) ?_
 refine wl_call 58 [(.tmp 22)] _ [.int .u64 (-n)] (.agg #[.int .u64 (l0 (-n)), .int .u64 (l1 (-n)), .int .u64 (l2 (-n)), .int .u64 (l3 (-n))]) rfl rfl (fun _ _ => by kernel_rfl) (from34_any (-n) _ ⟨by omega, by omega⟩) rfl ?_
 intro w2 hq
 replace Q1 := Q1.mo hq
 replace M := M.trans hq
 clear hq
 refine wl_m (.tmp 1) (.int .i64 (s)) ?_
 refine wl_build 40 [(0, (.tmp 21)), (1, (.tmp 23)), (2, (.tmp 24))] [(0, .bool true), (1, .agg #[.int .u64 (l0 (-n)), .int .u64 (l1 (-n)), .int .u64 (l2 (-n)), .int .u64 (l3 (-n))]), (2, .int .i64 (s))] (.agg #[.bool true, .int .u64 (l0 (-n)), .int .u64 (l1 (-n)), .int .u64 (l2 (-n)), .int .u64 (l3 (-n)), .int .i64 (s)]) rfl rfl (by kernel_rfl) rfl ?_
 refine wl_st 40 (.tmp 4) (.tmp 25) k1 0 #[.bool true, .int .u64 (l0 (-n)), .int .u64 (l1 (-n)), .int .u64 (l2 (-n)), .int .u64 (l3 (-n)), .int .i64 (s)] _ [.bool true, .int .u64 (l0 (-n)), .int .u64 (l1 (-n)), .int .u64 (l2 (-n)), .int .u64 (l3 (-n)), .int .i64 (s)] Q1 rfl rfl rfl rfl rfl zs40 rfl rfl rfl ?_
 intro w3 hS Qn
 replace Q1 := Qn
 clear Qn
 replace M := hS.mo _ N_k1 M
 clear hS
 refine wl_m (.const (.int .i64 (0))) (.int .i64 (0)) ?_
 refine w_nil (xn_then (w_ret ?_))
 exact w_ret2 _ _ (.agg #[.bool true, .int .u64 (l0 (-n)), .int .u64 (l1 (-n)), .int .u64 (l2 (-n)), .int .u64 (l3 (-n)), .int .i64 (s)]) (.int .i64 (0)) rfl ⟨k1, rfl, (run_row Q1 40 0 6 _ rfl Try.underlying40 rfl zs40)⟩ rfl ⟨rfl, M⟩
theorem num_p {n s : Int} (hn : -9223372036854775808 ≤ n ∧ n ≤ 9223372036854775807) (q0 : decide (n < 0) = false) (q1 : decide (s < 0) = false) (q2 : decide (18 < s) = false) : Calls Try.prog 28 #[.int .i64 n, .int .i64 s] w fun e w' => e = .returned (V10.v ⟨1, ⟨false, n, s⟩, false, ⟨#[]⟩, 0⟩) ∧ Mo w w' := by
 refine w_enter 15 Try.func28 Try.ntmps28 rfl rfl ?_
 have M : Mo w w := Mo.refl _
 refine w_seq (w_reg ?_)
 refine wl_alloc 55 #[.int .i64 0, .bool false, .int .u64 0, .int .u64 0, .int .u64 0, .int .u64 0, .int .i64 0, .bool false, .string ⟨#[]⟩, .int .i64 0] rfl (fun _ => by kernel_rfl) rfl ?_
 intro k1 w1 hk hz hq Q1
 have N_k1 : w.heap.size ≤ k1 := by have := M.size; omega
 replace M := M.trans hq
 clear hk hz hq
 refine w_nil (xn_then (w_seq (w_reg ?_)))
 refine wl_m (.tmp 0) (.int .i64 (n)) ?_
 refine wl_m (.tmp 1) (.int .i64 (s)) ?_
 refine wl_call 45 [(.tmp 8), (.tmp 9)] _ [.int .i64 (n), .int .i64 (s)] (.tuple #[.agg #[.bool false, .int .u64 (l0 (n)), .int .u64 (l1 (n)), .int .u64 (l2 (n)), .int .u64 (l3 (n)), .int .i64 (s)], .int .i64 (0)]) rfl rfl (fun _ _ => by kernel_rfl) (ofint_p hn q0 q1 q2) rfl ?_
 intro w2 hq
 replace Q1 := Q1.mo hq
 replace M := M.trans hq
 clear hq
 refine wl_m (.tmp 10) (.tuple #[.agg #[.bool false, .int .u64 (l0 (n)), .int .u64 (l1 (n)), .int .u64 (l2 (n)), .int .u64 (l3 (n)), .int .i64 (s)], .int .i64 (0)]) ?_
 refine wl_un (fun v => Instr.extract v 0) (.tmp 7) (.tuple #[.agg #[.bool false, .int .u64 (l0 (n)), .int .u64 (l1 (n)), .int .u64 (l2 (n)), .int .u64 (l3 (n)), .int .i64 (s)], .int .i64 (0)]) (.agg #[.bool false, .int .u64 (l0 (n)), .int .u64 (l1 (n)), .int .u64 (l2 (n)), .int .u64 (l3 (n)), .int .i64 (s)]) (fun _ => rfl) rfl (by kernel_rfl) rfl ?_
 refine wl_un (fun v => Instr.extract v 1) (.tmp 7) (.tuple #[.agg #[.bool false, .int .u64 (l0 (n)), .int .u64 (l1 (n)), .int .u64 (l2 (n)), .int .u64 (l3 (n)), .int .i64 (s)], .int .i64 (0)]) (.int .i64 (0)) (fun _ => rfl) rfl (by kernel_rfl) rfl ?_
 refine wl_alloc 40 #[.bool false, .int .u64 0, .int .u64 0, .int .u64 0, .int .u64 0, .int .i64 0] rfl (fun _ => by kernel_rfl) rfl ?_
 intro k2 w3 hk hz hq Q2
 have ne_k1_k2 : k1 ≠ k2 := by have := Q1.lt; omega
 have N_k2 : w.heap.size ≤ k2 := by have := M.size; omega
 replace Q1 := Q1.mo hq
 replace M := M.trans hq
 clear hk hz hq
 refine wl_st 40 (.tmp 5) (.tmp 11) k2 0 #[.bool false, .int .u64 (l0 (n)), .int .u64 (l1 (n)), .int .u64 (l2 (n)), .int .u64 (l3 (n)), .int .i64 (s)] _ [.bool false, .int .u64 (l0 (n)), .int .u64 (l1 (n)), .int .u64 (l2 (n)), .int .u64 (l3 (n)), .int .i64 (s)] Q2 rfl rfl rfl rfl rfl zs40 rfl rfl rfl ?_
 intro w4 hS Qn
 replace Q2 := Qn
 clear Qn
 replace Q1 := hS.other _ _ ne_k1_k2 Q1
 replace M := hS.mo _ N_k2 M
 clear hS
 refine wl_m (.tmp 12) (.int .i64 (0)) ?_
 refine w_nil (xn_then (w_seq (w_reg ?_)))
 refine wl_l 40 (.tmp 5) (pt k2 0) (.agg #[.bool false, .int .u64 (l0 (n)), .int .u64 (l1 (n)), .int .u64 (l2 (n)), .int .u64 (l3 (n)), .int .i64 (s)]) (run_row Q2 40 0 6 _ rfl Try.underlying40 rfl zs40) ?_
 refine wl_build 55 [(0, (.const (.int .i64 (1)))), (1, (.tmp 13))] [(0, .int .i64 (1)), (1, .agg #[.bool false, .int .u64 (l0 (n)), .int .u64 (l1 (n)), .int .u64 (l2 (n)), .int .u64 (l3 (n)), .int .i64 (s)])] (.agg #[.int .i64 (1), .bool false, .int .u64 (l0 (n)), .int .u64 (l1 (n)), .int .u64 (l2 (n)), .int .u64 (l3 (n)), .int .i64 (s), .bool false, .string ⟨#[]⟩, .int .i64 0]) rfl rfl (by kernel_rfl) rfl ?_
 refine wl_st 55 (.tmp 4) (.tmp 14) k1 0 #[.int .i64 (1), .bool false, .int .u64 (l0 (n)), .int .u64 (l1 (n)), .int .u64 (l2 (n)), .int .u64 (l3 (n)), .int .i64 (s), .bool false, .string ⟨#[]⟩, .int .i64 0] _ [.int .i64 (1), .bool false, .int .u64 (l0 (n)), .int .u64 (l1 (n)), .int .u64 (l2 (n)), .int .u64 (l3 (n)), .int .i64 (s), .bool false, .string ⟨#[]⟩, .int .i64 0] Q1 rfl rfl rfl rfl rfl zs55 rfl rfl rfl ?_
 intro w5 hS Qn
 replace Q1 := Qn
 clear Qn
 replace Q2 := hS.other _ _ ne_k1_k2.symm Q2
 replace M := hS.mo _ N_k1 M
 clear hS
 refine w_nil (xn_then (w_ret ?_))
 exact w_ret1 _ (.agg #[.int .i64 (1), .bool false, .int .u64 (l0 (n)), .int .u64 (l1 (n)), .int .u64 (l2 (n)), .int .u64 (l3 (n)), .int .i64 (s), .bool false, .string ⟨#[]⟩, .int .i64 0]) rfl ⟨k1, rfl, (run_row Q1 55 0 10 _ rfl Try.underlying55 rfl zs55)⟩ ⟨rfl, M⟩
theorem num_m {n s : Int} (hn : -9223372036854775808 ≤ n ∧ n ≤ 9223372036854775807) (q0 : decide (n < 0) = true) (q1 : decide (s < 0) = false) (q2 : decide (18 < s) = false) : Calls Try.prog 28 #[.int .i64 n, .int .i64 s] w fun e w' => e = .returned (V10.v ⟨1, ⟨true, -n, s⟩, false, ⟨#[]⟩, 0⟩) ∧ Mo w w' := by
 refine w_enter 15 Try.func28 Try.ntmps28 rfl rfl ?_
 have M : Mo w w := Mo.refl _
 refine w_seq (w_reg ?_)
 refine wl_alloc 55 #[.int .i64 0, .bool false, .int .u64 0, .int .u64 0, .int .u64 0, .int .u64 0, .int .i64 0, .bool false, .string ⟨#[]⟩, .int .i64 0] rfl (fun _ => by kernel_rfl) rfl ?_
 intro k1 w1 hk hz hq Q1
 have N_k1 : w.heap.size ≤ k1 := by have := M.size; omega
 replace M := M.trans hq
 clear hk hz hq
 refine w_nil (xn_then (w_seq (w_reg ?_)))
 refine wl_m (.tmp 0) (.int .i64 (n)) ?_
 refine wl_m (.tmp 1) (.int .i64 (s)) ?_
 refine wl_call 45 [(.tmp 8), (.tmp 9)] _ [.int .i64 (n), .int .i64 (s)] (.tuple #[.agg #[.bool true, .int .u64 (l0 (-n)), .int .u64 (l1 (-n)), .int .u64 (l2 (-n)), .int .u64 (l3 (-n)), .int .i64 (s)], .int .i64 (0)]) rfl rfl (fun _ _ => by kernel_rfl) (ofint_m hn q0 q1 q2) rfl ?_
 intro w2 hq
 replace Q1 := Q1.mo hq
 replace M := M.trans hq
 clear hq
 refine wl_m (.tmp 10) (.tuple #[.agg #[.bool true, .int .u64 (l0 (-n)), .int .u64 (l1 (-n)), .int .u64 (l2 (-n)), .int .u64 (l3 (-n)), .int .i64 (s)], .int .i64 (0)]) ?_
 refine wl_un (fun v => Instr.extract v 0) (.tmp 7) (.tuple #[.agg #[.bool true, .int .u64 (l0 (-n)), .int .u64 (l1 (-n)), .int .u64 (l2 (-n)), .int .u64 (l3 (-n)), .int .i64 (s)], .int .i64 (0)]) (.agg #[.bool true, .int .u64 (l0 (-n)), .int .u64 (l1 (-n)), .int .u64 (l2 (-n)), .int .u64 (l3 (-n)), .int .i64 (s)]) (fun _ => rfl) rfl (by kernel_rfl) rfl ?_
 refine wl_un (fun v => Instr.extract v 1) (.tmp 7) (.tuple #[.agg #[.bool true, .int .u64 (l0 (-n)), .int .u64 (l1 (-n)), .int .u64 (l2 (-n)), .int .u64 (l3 (-n)), .int .i64 (s)], .int .i64 (0)]) (.int .i64 (0)) (fun _ => rfl) rfl (by kernel_rfl) rfl ?_
 refine wl_alloc 40 #[.bool false, .int .u64 0, .int .u64 0, .int .u64 0, .int .u64 0, .int .i64 0] rfl (fun _ => by kernel_rfl) rfl ?_
 intro k2 w3 hk hz hq Q2
 have ne_k1_k2 : k1 ≠ k2 := by have := Q1.lt; omega
 have N_k2 : w.heap.size ≤ k2 := by have := M.size; omega
 replace Q1 := Q1.mo hq
 replace M := M.trans hq
 clear hk hz hq
 refine wl_st 40 (.tmp 5) (.tmp 11) k2 0 #[.bool true, .int .u64 (l0 (-n)), .int .u64 (l1 (-n)), .int .u64 (l2 (-n)), .int .u64 (l3 (-n)), .int .i64 (s)] _ [.bool true, .int .u64 (l0 (-n)), .int .u64 (l1 (-n)), .int .u64 (l2 (-n)), .int .u64 (l3 (-n)), .int .i64 (s)] Q2 rfl rfl rfl rfl rfl zs40 rfl rfl rfl ?_
 intro w4 hS Qn
 replace Q2 := Qn
 clear Qn
 replace Q1 := hS.other _ _ ne_k1_k2 Q1
 replace M := hS.mo _ N_k2 M
 clear hS
 refine wl_m (.tmp 12) (.int .i64 (0)) ?_
 refine w_nil (xn_then (w_seq (w_reg ?_)))
 refine wl_l 40 (.tmp 5) (pt k2 0) (.agg #[.bool true, .int .u64 (l0 (-n)), .int .u64 (l1 (-n)), .int .u64 (l2 (-n)), .int .u64 (l3 (-n)), .int .i64 (s)]) (run_row Q2 40 0 6 _ rfl Try.underlying40 rfl zs40) ?_
 refine wl_build 55 [(0, (.const (.int .i64 (1)))), (1, (.tmp 13))] [(0, .int .i64 (1)), (1, .agg #[.bool true, .int .u64 (l0 (-n)), .int .u64 (l1 (-n)), .int .u64 (l2 (-n)), .int .u64 (l3 (-n)), .int .i64 (s)])] (.agg #[.int .i64 (1), .bool true, .int .u64 (l0 (-n)), .int .u64 (l1 (-n)), .int .u64 (l2 (-n)), .int .u64 (l3 (-n)), .int .i64 (s), .bool false, .string ⟨#[]⟩, .int .i64 0]) rfl rfl (by kernel_rfl) rfl ?_
 refine wl_st 55 (.tmp 4) (.tmp 14) k1 0 #[.int .i64 (1), .bool true, .int .u64 (l0 (-n)), .int .u64 (l1 (-n)), .int .u64 (l2 (-n)), .int .u64 (l3 (-n)), .int .i64 (s), .bool false, .string ⟨#[]⟩, .int .i64 0] _ [.int .i64 (1), .bool true, .int .u64 (l0 (-n)), .int .u64 (l1 (-n)), .int .u64 (l2 (-n)), .int .u64 (l3 (-n)), .int .i64 (s), .bool false, .string ⟨#[]⟩, .int .i64 0] Q1 rfl rfl rfl rfl rfl zs55 rfl rfl rfl ?_
 intro w5 hS Qn
 replace Q1 := Qn
 clear Qn
 replace Q2 := hS.other _ _ ne_k1_k2.symm Q2
 replace M := hS.mo _ N_k1 M
 clear hS
 refine w_nil (xn_then (w_ret ?_))
 exact w_ret1 _ (.agg #[.int .i64 (1), .bool true, .int .u64 (l0 (-n)), .int .u64 (l1 (-n)), .int .u64 (l2 (-n)), .int .u64 (l3 (-n)), .int .i64 (s), .bool false, .string ⟨#[]⟩, .int .i64 0]) rfl ⟨k1, rfl, (run_row Q1 55 0 10 _ rfl Try.underlying55 rfl zs55)⟩ ⟨rfl, M⟩
end
end G
end Go.Proofs.Ythfemlhmnjfjiaa
/-
 A tree in a law: its blocks are new, and none of the law's own.
-/
namespace Go.Proofs.Ythfemlhmnjfjiaa
open Go.RowKit
namespace G
def Wr (n0 : Nat) (ks : List Nat) (j : Nat) : Prop := n0 ≤ j ∧ j ∉ ks
def GT (n0 : Nat) (ks : List Nat) (w : World) (t : Nat) (mb : Hd) (tr : T) (lk : Int) : Prop :=
 n0 ≤ w.heap.size ∧ (∀ k ∈ ks, k < w.heap.size) ∧ (∀ b, ob mb.h = some b → Wr n0 ks b) ∧ ∃ D, FT D w t mb tr lk ∧ ∀ j, D j ∨ j = mb.m → Wr n0 ks j
def I64 (i : Int) : Prop := -9223372036854775808 ≤ i ∧ i ≤ 9223372036854775807
def T.is (tr : T) : List Int := tr.ids.map (·.i)
section
variable {n0 : Nat} {ks : List Nat} {w w' : World} {t : Nat} {mb : Hd} {tr : T} {lk : Int}
theorem GT.mo (h : GT n0 ks w t mb tr lk) (m : Mo w w') : GT n0 ks w' t mb tr lk := by
 obtain ⟨h1, h2, h5, D, h3, h4⟩ := h
 exact ⟨Nat.le_trans h1 m.size, fun k e => Nat.lt_of_lt_of_le (h2 k e) m.size, h5, D, h3.mo m, h4⟩
theorem FT.sclt {D : Nat → Prop} (h : FT D w t mb tr lk) {b : Nat} (e : ob mb.h = some b) : b < w.heap.size := by
 obtain ⟨R, root, hS, _⟩ := h.ts
 exact hS.sc.lt e
theorem GT.push (h : GT n0 ks w t mb tr lk) {k : Nat} (hk : w.heap.size ≤ k) (hk2 : k < w'.heap.size) (m : Mo w w') : GT n0 (k :: ks) w' t mb tr lk := by
 obtain ⟨h1, h2, h5, D, h3, h4⟩ := h
 refine ⟨Nat.le_trans h1 m.size, fun j e => ?_, fun b e => ⟨(h5 b e).1, fun q => ?_⟩, D, h3.mo m, fun j e => ⟨(h4 j e).1, fun q => ?_⟩⟩
 ·rcases List.mem_cons.1 e with rfl | e
  ·exact hk2
  ·exact Nat.lt_of_lt_of_le (h2 j e) m.size
 ·rcases List.mem_cons.1 q with rfl | q
  ·have := h3.sclt e; omega
  ·exact (h5 b e).2 q
 ·rcases List.mem_cons.1 q with rfl | q
  ·rcases e with e | rfl
   ·obtain ⟨R, root, hS, _⟩ := h3.ts
    have := hS.lt e; omega
   ·have := h3.om.lt; omega
  ·exact (h4 j e).2 q
theorem GT.pop (h : GT n0 ks w t mb tr lk) {js : List Nat} (hs : ∀ k ∈ js, k ∈ ks) : GT n0 js w t mb tr lk := by
 obtain ⟨h1, h2, h5, D, h3, h4⟩ := h
 exact ⟨h1, fun k e => h2 k (hs k e), fun b e => ⟨(h5 b e).1, fun q => (h5 b e).2 (hs b q)⟩, D, h3, fun j e => ⟨(h4 j e).1, fun q => (h4 j e).2 (hs j q)⟩⟩
theorem GT.l0 (h : GT n0 ks w t mb tr lk) : 0 ≤ lk := by obtain ⟨_, _, _, D, h3, _⟩ := h; exact h3.l0
theorem GT.le (h : GT n0 ks w t mb tr lk) : tr.sz ≤ 1024 := by obtain ⟨_, _, _, D, h3, _⟩ := h; exact h3.le
theorem GT.nd (h : GT n0 ks w t mb tr lk) : tr.is.Nodup := by obtain ⟨_, _, _, D, h3, _⟩ := h; exact h3.nd
theorem GT.rg (h : GT n0 ks w t mb tr lk) : ∀ i ∈ tr.is, 1 ≤ i ∧ i ≤ 9007199254740992 := by obtain ⟨_, _, _, D, h3, _⟩ := h; exact h3.rg
theorem GT.oks (h : GT n0 ks w t mb tr lk) : ∀ y ∈ tr.ids, y.ok ∧ y.vs.length = mb.sc.length := by
 obtain ⟨_, _, _, D, h3, _⟩ := h
 obtain ⟨R, root, hS, _, _, hR, _⟩ := h3.ts
 have : ∀ (tr : T) {u : Option Nat}, Rep mb.sc R u tr → ∀ y ∈ tr.ids, y.ok ∧ y.vs.length = mb.sc.length := by
  intro tr
  induction tr with
  | e => intro u _ y hy; cases hy
  | n k i s l r il ir =>
   intro u h y hy
   obtain ⟨h9, e9⟩ := h.1
   unfold T.ids at hy
   rcases List.mem_append.1 hy with hy | hy
   ·exact il h.2.1 y hy
   ·rcases List.mem_cons.1 hy with rfl | hy
    ·exact ⟨(hS.sv k _ e9).2.2, (hS.sv k _ e9).2.1⟩
    ·exact ir h.2.2 y hy
 exact this tr hR
theorem Wr.mo {a : World} (h : Mk (Wr n0 ks) w w') (m : Mo a w) (hn : a.heap.size ≤ n0) : Mo a w' := h.mo m (fun _ e => Nat.le_trans hn e.1)
theorem Wr.at (h : Mk (Wr n0 ks) w w') {k : Nat} {vs : List Value} (hA : At w k vs) (hk : k ∈ ks) : At w' k vs := h.at hA (fun e => e.2 hk)
theorem Mk.sub {D E : Nat → Prop} (h : Mk D w w') (hs : ∀ j, D j → E j) : Mk E w w' := (Mk.refl E w).tr h (fun j _ e => hs j e)
theorem GT.grow {D D' : Nat → Prop} {tr' : T} {lk' : Int} (h1 : n0 ≤ w.heap.size) (h2 : ∀ k ∈ ks, k < w.heap.size) (h5 : ∀ b, ob mb.h = some b → Wr n0 ks b) (h4 : ∀ j, D j ∨ j = mb.m → Wr n0 ks j) (h : FT D' w' t mb tr' lk') (hD : ∀ j, D' j → D j ∨ w.heap.size ≤ j) (m : Mk (fun j => D j ∨ j = mb.m) w w') : GT n0 ks w' t mb tr' lk' ∧ Mk (Wr n0 ks) w w' := by
 refine ⟨⟨Nat.le_trans h1 m.size, fun k e => Nat.lt_of_lt_of_le (h2 k e) m.size, h5, _, h, fun j e => ?_⟩, m.sub h4⟩
 rcases e with e | e
 ·rcases hD j e with e | e
  ·exact h4 j (Or.inl e)
  ·exact ⟨by omega, fun q => by have := h2 _ q; omega⟩
 ·exact h4 j (Or.inr e)
theorem GT.eq (h : GT n0 ks w t mb tr lk) (m : Mo w w') : GT n0 ks w' t mb tr lk ∧ Mk (Wr n0 ks) w w' := ⟨h.mo m, Mk.of _ m⟩
theorem new_x {p : Option Addr} {c : Nat} {sc : List Int} (hgt : 64 < sc.length) : Calls Try.prog 7 #[.slice p sc.length c] w fun e w' => e = .returned (.tuple #[pp none, .int .i64 3]) ∧ Mo w w' := new_no (decide_eq_true (by omega))
theorem new_g {p : Option Addr} {c : Nat} {sc : List Int} (hr : SN w p sc) (hle : sc.length ≤ 64) (h0 : n0 ≤ w.heap.size) (hk : ∀ k ∈ ks, k < w.heap.size) : Calls Try.prog 7 #[.slice p sc.length c] w fun e w' => ∃ (t : Nat) (mb : Hd), e = .returned (.tuple #[pt t 0, .int .i64 0]) ∧ GT n0 ks w' t mb .e 0 ∧ mb.sc = sc ∧ w.heap.size ≤ t ∧ Mo w w' := by
 refine (new_ok hr (decide_eq_false (by omega))).mono fun e w' hq => ?_
 obtain ⟨t, mb, D, he, hF, hs, hD, hm, hb, M⟩ := hq
 have key : ∀ j, w.heap.size ≤ j → Wr n0 ks j := fun j hj => ⟨Nat.le_trans h0 hj, fun q => by have := hk j q; omega⟩
 refine ⟨t, mb, he, ⟨Nat.le_trans h0 M.size, fun k e => Nat.lt_of_lt_of_le (hk k e) M.size, fun b e => key b (hb b e), D, hF, fun j e => key j ?_⟩, hs, ?_, M⟩
 ·rcases e with e | rfl
  ·exact hD j e
  ·exact hm
 ·obtain ⟨R, root, hS, _⟩ := hF.ts
  exact hD t hS.dt
theorem adr_out {id : Int} (h : id ∉ tr.is) : adr tr.kv id = none := adr_none (by rw [T.kv_ids]; exact h)
theorem adr_in {id : Int} (h : id ∈ tr.is) : ∃ k, adr tr.kv id = some k := by
 cases e : adr tr.kv id with
 | none => have := adr_is.2 (show id ∈ tr.kv.map (·.1) by rw [T.kv_ids]; exact h); rw [e] at this; cases this
 | some k => exact ⟨k, rfl⟩
def insE (nc : Nat) (tr : T) (at0 id : Int) (nv : Nat) : Int := if nv ≠ nc then 1 else if id < 1 ∨ 9007199254740992 < id then 1 else if id ∈ tr.is then 5 else if 1024 ≤ tr.sz then 6 else if at0 < 0 ∨ tr.sz < at0 then 1 else 0
theorem insert_no {at0 id : Int} {p : Option Addr} {cap : Nat} {vs : List V10} (h : GT n0 ks w t mb tr lk) (hi : I64 id) (he : insE mb.sc.length tr at0 id vs.length ≠ 0) : Calls Try.prog 9 #[pt t 0, .int .i64 at0, .int .i64 id, .slice p vs.length cap] w fun e w' => e = .returned (.int .i64 (insE mb.sc.length tr at0 id vs.length)) ∧ Mo w w' := by
 obtain ⟨g1, g2, g5, D, hF, g4⟩ := h
 have hkl := tr.kv_len
 unfold insE at he ⊢
 by_cases c0 : vs.length ≠ mb.sc.length
 ·rw [if_pos c0]; exact insert_v hF (decide_eq_false c0)
 rw [if_neg c0] at he ⊢
 have c0' : decide (vs.length = mb.sc.length) = true := decide_eq_true (Classical.not_not.1 c0)
 by_cases c1 : id < 1
 ·rw [if_pos (Or.inl c1)]; exact insert_a hF c0' (decide_eq_true c1)
 by_cases c2 : 9007199254740992 < id
 ·rw [if_pos (Or.inr c2)]; exact insert_b hF c0' (decide_eq_false c1) (decide_eq_true c2)
 rw [if_neg (by omega)] at he ⊢
 by_cases c3 : id ∈ tr.is
 ·rw [if_pos c3]; exact insert_c hF hi c0' (decide_eq_false c1) (decide_eq_false c2) (adr_is.2 (by rw [T.kv_ids]; exact c3))
 rw [if_neg c3] at he ⊢
 have c3' : (adr tr.kv id).isSome = false := by rw [adr_out c3]; rfl
 by_cases c4 : 1024 ≤ tr.sz
 ·rw [if_pos c4]; exact insert_d hF hi c0' (decide_eq_false c1) (decide_eq_false c2) c3' (decide_eq_true (by omega))
 rw [if_neg c4] at he ⊢
 by_cases c5 : at0 < 0
 ·rw [if_pos (Or.inl c5)]; exact insert_e hF hi c0' (decide_eq_false c1) (decide_eq_false c2) c3' (decide_eq_false (by omega)) (decide_eq_true c5)
 by_cases c6 : tr.sz < at0
 ·rw [if_pos (Or.inr c6)]; exact insert_f hF hi c0' (decide_eq_false c1) (decide_eq_false c2) c3' (decide_eq_false (by omega)) (decide_eq_false c5) (decide_eq_true (by omega))
 rw [if_neg (by omega)] at he
 exact absurd rfl he
theorem insE_0 {nc nv : Nat} {at0 id : Int} (h : insE nc tr at0 id nv = 0) : nv = nc ∧ id ∉ tr.is ∧ 1 ≤ id ∧ id ≤ 9007199254740992 ∧ tr.sz < 1024 ∧ 0 ≤ at0 ∧ at0 ≤ tr.sz := by
 unfold insE at h
 by_cases c0 : nv ≠ nc
 ·rw [if_pos c0] at h; omega
 rw [if_neg c0] at h
 by_cases c1 : id < 1 ∨ 9007199254740992 < id
 ·rw [if_pos c1] at h; omega
 rw [if_neg c1] at h
 by_cases c3 : id ∈ tr.is
 ·rw [if_pos c3] at h; omega
 rw [if_neg c3] at h
 by_cases c4 : 1024 ≤ tr.sz
 ·rw [if_pos c4] at h; omega
 rw [if_neg c4] at h
 by_cases c5 : at0 < 0 ∨ tr.sz < at0
 ·rw [if_pos c5] at h; omega
 exact ⟨Classical.not_not.1 c0, c3, by omega, by omega, by omega, by omega, by omega⟩
theorem insert_g {at0 id : Int} {p : Option Addr} {cap : Nat} {vs : List V10} (h : GT n0 ks w t mb tr lk) (he : insE mb.sc.length tr at0 id vs.length = 0) (hlk : lk ≤ 3000000000000000000) (hSV : ∀ w', Mk (Wr n0 ks) w w' → SVv w' p vs) (hvo : ∀ x ∈ vs, x.n.ok) : Calls Try.prog 9 #[pt t 0, .int .i64 at0, .int .i64 id, .slice p vs.length cap] w fun e w' => ∃ y kn tr' lk', e = .returned (.int .i64 0) ∧ Ins tr at0 ⟨id, y, vs⟩ kn tr' ∧ GT n0 ks w' t mb tr' lk' ∧ lk < lk' ∧ lk' ≤ lk + 10 * tr.ht + 8 ∧ Mk (Wr n0 ks) w w' := by
 obtain ⟨c0, c1, c2, c3, c4, c5, c6⟩ := insE_0 he
 obtain ⟨g1, g2, g5, D, hF, g4⟩ := h
 have hkl := tr.kv_len
 refine (insert_ok hF ⟨by omega, by omega⟩ (decide_eq_true c0) (decide_eq_false (by omega)) (decide_eq_false (by omega)) (by rw [adr_out c1]; rfl) (decide_eq_false (by omega)) (decide_eq_false (by omega)) (decide_eq_false (by omega)) hlk (fun w' m => hSV w' (m.sub g4)) hvo).mono fun e w' hq => ?_
 obtain ⟨y, kn, tr', lk', D', he, hI, hF2, hkn, hk1, hk2, hM, hD⟩ := hq
 obtain ⟨q1, q2⟩ := GT.grow g1 g2 g5 g4 hF2 hD hM
 exact ⟨y, kn, tr', lk', he, hI, q1, hk1, hk2, q2⟩
theorem ins_any {at0 id : Int} {p : Option Addr} {cap : Nat} {vs : List V10} (h : GT n0 ks w t mb tr lk) (hi : I64 id) (hlk : lk ≤ 3000000000000000000) (hSV : ∀ w', Mk (Wr n0 ks) w w' → SVv w' p vs) (hvo : ∀ x ∈ vs, x.n.ok) : Calls Try.prog 9 #[pt t 0, .int .i64 at0, .int .i64 id, .slice p vs.length cap] w fun e w' => ∃ tr' lk', e = .returned (.int .i64 (insE mb.sc.length tr at0 id vs.length)) ∧ GT n0 ks w' t mb tr' lk' ∧ (insE mb.sc.length tr at0 id vs.length = 0 ∧ (∃ y kn, Ins tr at0 ⟨id, y, vs⟩ kn tr') ∧ lk < lk' ∨ insE mb.sc.length tr at0 id vs.length ≠ 0 ∧ tr' = tr ∧ lk' = lk) ∧ lk ≤ lk' ∧ lk' ≤ lk + 10 * tr.ht + 8 ∧ Mk (Wr n0 ks) w w' := by
 by_cases c : insE mb.sc.length tr at0 id vs.length = 0
 ·refine (insert_g h c hlk hSV hvo).mono fun e w' hq => ?_
  obtain ⟨y, kn, tr', lk', he, hI, hG, hk1, hk2, hM⟩ := hq
  exact ⟨tr', lk', by rw [c]; exact he, hG, Or.inl ⟨c, ⟨y, kn, hI⟩, hk1⟩, by omega, hk2, hM⟩
 ·refine (insert_no h hi c).mono fun e w' hq => ?_
  obtain ⟨h1, h2⟩ := h.eq hq.2
  exact ⟨tr, lk, hq.1, h1, Or.inr ⟨c, rfl, rfl⟩, by omega, by omega, h2⟩
theorem del_any {id : Int} (h : GT n0 ks w t mb tr lk) (hi : I64 id) (hlk : lk ≤ 2900000000000000000) : Calls Try.prog 15 #[pt t 0, .int .i64 id] w fun e w' => ∃ p c tr' lk', e = .returned (.tuple #[.int .i64 p, .int .i64 c]) ∧ GT n0 ks w' t mb tr' lk' ∧ (c = 0 ∧ 0 ≤ p ∧ (∃ y, tr.ids[p.toNat]? = some y ∧ y.i = id ∧ Del tr y p tr') ∨ c = 4 ∧ p = 0 ∧ id ∉ tr.is ∧ tr' = tr ∧ lk' = lk) ∧ lk ≤ lk' ∧ lk' ≤ lk + 3 + 11 * tr.ht ∧ Mk (Wr n0 ks) w w' := by
 by_cases c : id ∈ tr.is
 ·obtain ⟨g1, g2, g5, D, hF, g4⟩ := h
  obtain ⟨k, e⟩ := adr_in c
  refine (delete_ok hF hi e hlk).mono fun e w' hq => ?_
  obtain ⟨p, y, tr', lk', D', he, hp, hi, hy, hD, hF2, hk1, hk2, hM, hDD⟩ := hq
  obtain ⟨q1, q2⟩ := GT.grow g1 g2 g5 g4 hF2 (fun j e => Or.inl (hDD j e)) hM
  exact ⟨p, 0, tr', lk', he, q1, Or.inl ⟨rfl, hp, y, hi, hy, hD⟩, hk1, hk2, q2⟩
 ·have h' := h
  obtain ⟨g1, g2, g5, D, hF, g4⟩ := h
  refine (delete_a hF hi (adr_out c)).mono fun e w' hq => ?_
  obtain ⟨h1, h2⟩ := h'.eq hq.2
  exact ⟨_, _, tr, lk, hq.1, h1, Or.inr ⟨rfl, rfl, c, rfl, rfl⟩, by omega, by omega, h2⟩
theorem mov_any {id at0 : Int} (h : GT n0 ks w t mb tr lk) (hi : I64 id) (hlk : lk ≤ 2900000000000000000) : Calls Try.prog 16 #[pt t 0, .int .i64 id, .int .i64 at0] w fun e w' => ∃ p c tr' lk', e = .returned (.tuple #[.int .i64 p, .int .i64 c]) ∧ GT n0 ks w' t mb tr' lk' ∧ (c = 0 ∧ 0 ≤ p ∧ 0 ≤ at0 ∧ at0 < tr.sz ∧ (∃ y kn tr1, tr.ids[p.toNat]? = some y ∧ y.i = id ∧ Del tr y p tr1 ∧ Ins tr1 at0 y kn tr' ∧ lk' ≤ lk + 11 + 11 * tr.ht + 10 * tr1.ht) ∨ (c = 4 ∧ id ∉ tr.is ∨ c = 1 ∧ id ∈ tr.is ∧ (at0 < 0 ∨ tr.sz ≤ at0)) ∧ p = 0 ∧ tr' = tr ∧ lk' = lk) ∧ lk ≤ lk' ∧ Mk (Wr n0 ks) w w' := by
 have h' := h
 have hkl := tr.kv_len
 obtain ⟨g1, g2, g5, D, hF, g4⟩ := h
 by_cases c : id ∈ tr.is
 ·obtain ⟨k, e⟩ := adr_in c
  by_cases c1 : at0 < 0 ∨ tr.sz ≤ at0
  ·have hc : Calls Try.prog 16 #[pt t 0, .int .i64 id, .int .i64 at0] w fun e w' => e = .returned (.tuple #[.int .i64 0, .int .i64 1]) ∧ Mo w w' := by
    by_cases c2 : at0 < 0
    ·exact move_b hF hi e (decide_eq_true c2)
    ·exact move_c hF hi e (decide_eq_false c2) (decide_eq_true (by omega))
   refine hc.mono fun e w' hq => ?_
   obtain ⟨h1, h2⟩ := h'.eq hq.2
   exact ⟨_, _, tr, lk, hq.1, h1, Or.inr ⟨Or.inr ⟨rfl, c, c1⟩, rfl, rfl, rfl⟩, by omega, h2⟩
  ·refine (move_ok hF hi e (decide_eq_false (by omega)) (decide_eq_false (by omega)) hlk).mono fun e w' hq => ?_
   obtain ⟨p, y, kn, tr1, tr', lk', D', he, hp, hy, hyi, hD, hI, hF2, hkn, hk1, hk2, hM, hDD⟩ := hq
   obtain ⟨q1, q2⟩ := GT.grow g1 g2 g5 g4 hF2 hDD hM
   exact ⟨p, 0, tr', lk', he, q1, Or.inl ⟨rfl, hp, by omega, by omega, y, kn, tr1, hy, hyi, hD, hI, hk2⟩, hk1, q2⟩
 ·refine (move_a hF hi (adr_out c)).mono fun e w' hq => ?_
  obtain ⟨h1, h2⟩ := h'.eq hq.2
  exact ⟨_, _, tr, lk, hq.1, h1, Or.inr ⟨Or.inl ⟨rfl, c⟩, rfl, rfl, rfl⟩, by omega, h2⟩
theorem hasF {cn : Int} (h : cn < 0 ∨ (mb.sc.length : Int) ≤ cn) : (decide (0 ≤ cn) && decide (cn < (mb.sc.length : Int))) = false := by
 rcases h with h | h
 ·rw [decide_eq_false (by omega)]; rfl
 ·rw [decide_eq_false (p := cn < (mb.sc.length : Int)) (by omega), Bool.and_false]
theorem set_any {id cn : Int} {x : V10} (h : GT n0 ks w t mb tr lk) (hi : I64 id) (hx : x.n.ok) (hlk : lk ≤ 3000000000000000000) : Calls Try.prog 17 #[pt t 0, .int .i64 id, .int .i64 cn, V10.v x] w fun e w' => ∃ c tr' lk', e = .returned (.int .i64 c) ∧ GT n0 ks w' t mb tr' lk' ∧ (c = 0 ∧ 0 ≤ cn ∧ cn < mb.sc.length ∧ (∃ A B y, tr.ids = A ++ y :: B ∧ y.i = id ∧ tr'.ids = A ++ ⟨y.i, y.v, y.vs.set cn.toNat x⟩ :: B ∧ Sim tr tr') ∧ lk < lk' ∨ (c = 1 ∧ (cn < 0 ∨ (mb.sc.length : Int) ≤ cn) ∨ c = 4 ∧ 0 ≤ cn ∧ cn < mb.sc.length ∧ id ∉ tr.is) ∧ tr' = tr ∧ lk' = lk) ∧ lk ≤ lk' ∧ lk' ≤ lk + 3 * tr.ht ∧ Mk (Wr n0 ks) w w' := by
 have h' := h
 obtain ⟨g1, g2, g5, D, hF, g4⟩ := h
 by_cases c0 : cn < 0 ∨ (mb.sc.length : Int) ≤ cn
 ·refine (set_x hF (hasF c0)).mono fun e w' hq => ?_
  obtain ⟨h1, h2⟩ := h'.eq hq.2
  exact ⟨_, tr, lk, hq.1, h1, Or.inr ⟨Or.inl ⟨rfl, c0⟩, rfl, rfl⟩, by omega, by omega, h2⟩
 obtain ⟨n, rfl⟩ := Int.eq_ofNat_of_zero_le (show 0 ≤ cn by omega)
 have hn : n < mb.sc.length := by omega
 by_cases c : id ∈ tr.is
 ·obtain ⟨k, e⟩ := adr_in c
  refine (set_ok hF hi hn hx e hlk).mono fun e w' hq => ?_
  obtain ⟨A, B, y, tr', lk', he, h1, h2, h3, h4, hF2, hk1, hk2, hM⟩ := hq
  obtain ⟨q1, q2⟩ := GT.grow g1 g2 g5 g4 hF2 (fun j e => Or.inl e) (hM.sub (fun _ e => Or.inl e))
  exact ⟨0, tr', lk', he, q1, Or.inl ⟨rfl, by omega, by omega, ⟨A, B, y, h1, h2, h3, h4⟩, hk1⟩, by omega, hk2, q2⟩
 ·refine (set_n hF hi hn (adr_out c)).mono fun e w' hq => ?_
  obtain ⟨h1, h2⟩ := h'.eq hq.2
  exact ⟨_, tr, lk, hq.1, h1, Or.inr ⟨Or.inr ⟨rfl, by omega, by omega, c⟩, rfl, rfl⟩, by omega, by omega, h2⟩
theorem GT.keep {D : Nat → Prop} {tr' : T} {lk' : Int} (h1 : n0 ≤ w.heap.size) (h2 : ∀ k ∈ ks, k < w.heap.size) (h5 : ∀ b, ob mb.h = some b → Wr n0 ks b) (h4 : ∀ j, D j ∨ j = mb.m → Wr n0 ks j) (h : FT D w' t mb tr' lk') (m : Mk D w w') : GT n0 ks w' t mb tr' lk' ∧ Mk (Wr n0 ks) w w' :=
 GT.grow h1 h2 h5 h4 h (fun _ e => Or.inl e) (m.sub (fun _ e => Or.inl e))
theorem qry_any {cn fa ta : Int} (h : GT n0 ks w t mb tr lk) (hlk : lk ≤ 3000000000000000000) : Calls Try.prog 11 #[pt t 0, .int .i64 cn, .int .i64 fa, .int .i64 ta] w fun e w' => ∃ S cd lk', e = .returned (.tuple #[smv S, .int .i64 cd]) ∧ GT n0 ks w' t mb tr lk' ∧ ((0 ≤ cn ∧ cn < mb.sc.length ∧ 0 ≤ fa ∧ fa ≤ ta ∧ ta ≤ tr.sz) ∧ cd = 0 ∧ S = prt cn.toNat (mb.sc.getD cn.toNat 0) fa ta tr.ids ∨ ¬ (0 ≤ cn ∧ cn < mb.sc.length ∧ 0 ≤ fa ∧ fa ≤ ta ∧ ta ≤ tr.sz) ∧ cd = 1 ∧ S = sm0) ∧ lk ≤ lk' ∧ lk' ≤ lk + 1 + 4 * tr.ht ∧ Mk (Wr n0 ks) w w' := by
 have h' := h
 obtain ⟨g1, g2, g5, D, hF, g4⟩ := h
 by_cases c0 : cn < 0 ∨ (mb.sc.length : Int) ≤ cn
 ·refine (query_x hF (hasF c0)).mono fun e w' hq => ?_
  obtain ⟨h1, h2⟩ := h'.eq hq.2
  exact ⟨_, _, lk, hq.1, h1, Or.inr ⟨by omega, rfl, rfl⟩, by omega, by omega, h2⟩
 obtain ⟨n, rfl⟩ := Int.eq_ofNat_of_zero_le (show 0 ≤ cn by omega)
 have hn : n < mb.sc.length := by omega
 refine (query_c hF hn hlk).mono fun e w' hq => ?_
 obtain ⟨S, cd, lk', he, hr, hF2, hk1, hk2, hM⟩ := hq
 obtain ⟨q1, q2⟩ := GT.keep g1 g2 g5 g4 hF2 hM
 refine ⟨S, cd, lk', he, q1, ?_, hk1, hk2, q2⟩
 rcases hr with ⟨a, b, c⟩ | ⟨a, b, c⟩
 ·exact Or.inl ⟨by omega, b, c⟩
 ·exact Or.inr ⟨by omega, b, c⟩
theorem sum_any {cn : Int} (h : GT n0 ks w t mb tr lk) (hlk : lk ≤ 3000000000000000000) : Calls Try.prog 12 #[pt t 0, .int .i64 cn] w fun e w' => ∃ S cd lk', e = .returned (.tuple #[smv S, .int .i64 cd]) ∧ GT n0 ks w' t mb tr lk' ∧ ((0 ≤ cn ∧ cn < mb.sc.length) ∧ cd = 0 ∧ S = col cn.toNat (mb.sc.getD cn.toNat 0) tr.ids ∨ ¬ (0 ≤ cn ∧ cn < mb.sc.length) ∧ cd = 1 ∧ S = sm0) ∧ lk ≤ lk' ∧ lk' ≤ lk + 1 ∧ Mk (Wr n0 ks) w w' := by
 have h' := h
 obtain ⟨g1, g2, g5, D, hF, g4⟩ := h
 by_cases c0 : cn < 0 ∨ (mb.sc.length : Int) ≤ cn
 ·refine (sumc_a hF (hasF c0)).mono fun e w' hq => ?_
  obtain ⟨h1, h2⟩ := h'.eq hq.2
  exact ⟨_, _, lk, hq.1, h1, Or.inr ⟨by omega, rfl, rfl⟩, by omega, by omega, h2⟩
 refine (sumc_ok hF (by rw [Bool.and_eq_true, decide_eq_true_eq, decide_eq_true_eq]; omega) hlk).mono fun e w' hq => ?_
 obtain ⟨lk', he, hF2, hk1, hk2, hM⟩ := hq
 obtain ⟨q1, q2⟩ := GT.keep g1 g2 g5 g4 hF2 hM
 exact ⟨_, _, lk', he, q1, Or.inl ⟨by omega, rfl, rfl⟩, hk1, hk2, q2⟩
theorem GT.st (h : GT n0 ks w t mb tr lk) {k : Nat} (s : St2 k w w') (hk : k ∈ ks) : GT n0 ks w' t mb tr lk := by
 obtain ⟨h1, h2, h5, D, h3, h4⟩ := h
 have hK := Mk.st1 s
 obtain ⟨R, root, hS, hAp, hC, hR, hn⟩ := h3.ts
 exact ⟨Nat.le_trans h1 hK.size, fun j e => Nat.lt_of_lt_of_le (h2 j e) hK.size, h5, D, ⟨⟨R, root, hS.kept hK (fun j e q => (h4 j (Or.inl e)).2 (by rw [q]; exact hk)) (fun b hb q => (h5 b hb).2 (by rw [q]; exact hk)), hAp, hC, hR, hn⟩, h3.om.mk hK (fun q => (h4 mb.m (Or.inr rfl)).2 (by rw [q]; exact hk)), h3.ok, h3.nd, h3.rg, h3.le, h3.l0, h3.hm⟩, h4⟩
end
end G
end Go.Proofs.Ythfemlhmnjfjiaa
/-
 Scripts; what their operations do at most.
-/
namespace Go.Proofs.Ythfemlhmnjfjiaa
open Go.RowKit
namespace G
structure Op6 where
 d : Int
 a : Int
 i : Int
 p : Option Addr
 vs : List V10
 cap : Nat
 c : Int
 f : Int
 e : Int
def Op6.cells (o : Op6) : List Value := [.int .i64 o.d, .int .i64 o.a, .int .i64 o.i, .slice o.p o.vs.length o.cap, .int .i64 o.c, .int .i64 o.f, .int .i64 o.e]
abbrev Op6.v (o : Op6) : Value := .agg #[.int .i64 o.d, .int .i64 o.a, .int .i64 o.i, .slice o.p o.vs.length o.cap, .int .i64 o.c, .int .i64 o.f, .int .i64 o.e]
structure Op6.ok (o : Op6) : Prop where
 d : I64 o.d
 a : I64 o.a
 i : I64 o.i
 v : ∀ x ∈ o.vs, x.n.ok
 c : I64 o.c
 f : I64 o.f
 e : I64 o.e
def Op6.val (o : Op6) : V10 := o.vs.headD v0
theorem Op6.val_ok {o : Op6} (h : o.ok) : o.val.n.ok := by
 unfold Op6.val
 cases e : o.vs with
 | nil => exact d0_ok
 | cons x L => exact h.v x (by rw [e]; simp)
def SA (w : World) (p : Option Addr) (l : List Op6) : Prop := ∀ i o, l[i]? = some o → (∃ b off, p = some ⟨b, off, none⟩ ∧ b < w.heap.size ∧ w.rangeAt b (off + i * 7) o.cells) ∧ SVv w o.p o.vs
theorem SA.mo {w w' : World} {p : Option Addr} {l : List Op6} (h : SA w p l) (m : Mo w w') : SA w' p l := fun i o e => by
 obtain ⟨⟨b, off, h1, h2, h3⟩, h4⟩ := h i o e
 exact ⟨⟨b, off, h1, Nat.lt_of_lt_of_le h2 m.size, fun j v hv => (m.cell b _ h2).trans (h3 j v hv)⟩, h4.mo m⟩
theorem zs31 : (Try.prog.info? 31).map (·.size) = some 7 := by kernel_rfl
theorem SA.load {w : World} {b off i : Nat} {o : Op6} (h : w.rangeAt b (off + i * 7) o.cells) : (Instr.loadAt 31 (pt b (off + i * 7))).run Try.prog w = .ok o.v w :=
 run_loadAt_mid w b (off + i * 7) 31 o.cells _ h Try.underlying31 rfl zs31
theorem ix23 (b off i n c : Nat) (h : i < n) (w : World) : (Instr.indexAt 23 (.slice (some ⟨b, off, none⟩) n c) (.int .i64 (i : Int))).run Try.prog w = .ok (pt b (off + i * 7)) w := by
 have e : (Instr.indexAt 23 (.slice (some ⟨b, off, none⟩) n c) (.int .i64 (i : Int))).run Try.prog w = .ok (.pointer (some ((⟨b, off, none⟩ : Addr).add (i * 7)))) w := by simp [go_sem, h]
 rw [e, Addr.add_mid]
theorem len23 (ρ : Operand → Value) (x : Operand) (p : Option Addr) (m c : Nat) (hx : ρ x = .slice p m c) (dst : Option Tmp) (type : TypeId) (pos : String) (after : Array Edge) (guard : Option (Nat × Bool)) (w : World) : (execOp ρ { dst, op := .call { callee := .builtin .len, args := #[x], argTypes := #[23] }, type, pos, after, guard }).run Try.prog w = .ok (.value (.int .i64 (m : Int))) w := by
 simp [go_sem, hx]
theorem eqT (k : Nat) (a b : Operand) (w : World) : (do eqGuard .eql 24 a b (pt k 0) (.pointer none); binOp .eql 24 (pt k 0) (.pointer none)).run Try.prog w = .ok (.bool false) w := by kernel_rfl
theorem eqT0 (a b : Operand) (w : World) : (do eqGuard .eql 24 a b (pp none) (.pointer none); binOp .eql 24 (pp none) (.pointer none)).run Try.prog w = .ok (.bool true) w := by kernel_rfl
section
variable {n0 : Nat} {ks : List Nat} {w w' : World} {t : Nat} {mb : Hd} {tr : T} {lk : Int}
theorem Del.sz {tr tr' : T} {i : Py} {p : Int} (h : Del tr i p tr') : tr'.sz = tr.sz - 1 := by
 obtain ⟨A, B, h1, h2, h3⟩ := h.ids
 have a := tr.sz_ids
 have b := tr'.sz_ids
 rw [h1] at a
 rw [h3] at b
 simp only [List.length_append, List.length_cons] at a b
 omega
end
section
variable {w : World}
theorem value_t (o : Op6) (q0 : decide (o.vs.length = 0) = true) : Calls Try.prog 18 #[o.v] w fun e w' => e = .returned (V10.v o.val) ∧ Mo w w' := by
 have hval0 : o.val = v0 := by unfold Op6.val; rw [List.length_eq_zero_iff.1 (of_decide_eq_true q0)]; rfl
 refine w_enter 12 Try.func18 Try.ntmps18 rfl rfl ?_
 have M : Mo w w := Mo.refl _
 refine w_seq (w_reg ?_)
 refine wl_box 31 (.tmp 0) _ (#[.int .i64 (o.d), .int .i64 (o.a), .int .i64 (o.i), .slice o.p o.vs.length o.cap, .int .i64 (o.c), .int .i64 (o.f), .int .i64 (o.e)]) rfl rfl (fun _ => by kernel_rfl) rfl ?_
 intro k1 w1 hk hz hq Q1
 have N_k1 : w.heap.size ≤ k1 := by have := M.size; omega
 replace M := M.trans hq
 clear hk hz hq
 refine wl_alloc 55 #[.int .i64 0, .bool false, .int .u64 0, .int .u64 0, .int .u64 0, .int .u64 0, .int .i64 0, .bool false, .string ⟨#[]⟩, .int .i64 0] rfl (fun _ => by kernel_rfl) rfl ?_
 intro k2 w2 hk hz hq Q2
 have ne_k1_k2 : k1 ≠ k2 := by have := Q1.lt; omega
 have N_k2 : w.heap.size ≤ k2 := by have := M.size; omega
 replace Q1 := Q1.mo hq
 replace M := M.trans hq
 clear hk hz hq
 refine w_nil (xn_then (w_seq (w_seq (w_reg ?_))))
 refine wl_f 31 3 (.tmp 1) (pt k1 0) (pt k1 3) ?_
 refine wl_l 29 (.tmp 3) (pt k1 3) (.slice o.p o.vs.length o.cap) (run_one Q1 29 3 rfl Try.underlying29 rfl) ?_
 refine wl_val (.int .i64 ((o.vs.length : Nat) : Int)) (len29 _ _ _ _ _ (by exact rfl) _ _ _ _ _ _) rfl ?_
 refine wl_b .eql 3 (.tmp 5) (.const (.int .i64 (0))) (.int .i64 ((o.vs.length : Nat) : Int)) (.int .i64 (0)) (.bool true) (eqI (by rw [← q0]; exact decide_eq_decide.2 (by omega)) _ _ _) ?_
 refine w_nil (xn_then (w_condT rfl (w_seq (w_reg ?_))))
 refine wl_build 55 [] [] (.agg #[.int .i64 0, .bool false, .int .u64 0, .int .u64 0, .int .u64 0, .int .u64 0, .int .i64 0, .bool false, .string ⟨#[]⟩, .int .i64 0]) rfl rfl (by kernel_rfl) rfl ?_
 refine wl_st 55 (.tmp 2) (.tmp 7) k2 0 #[.int .i64 0, .bool false, .int .u64 0, .int .u64 0, .int .u64 0, .int .u64 0, .int .i64 0, .bool false, .string ⟨#[]⟩, .int .i64 0] _ [.int .i64 0, .bool false, .int .u64 0, .int .u64 0, .int .u64 0, .int .u64 0, .int .i64 0, .bool false, .string ⟨#[]⟩, .int .i64 0] Q2 rfl rfl rfl rfl rfl zs55 rfl rfl rfl ?_
 intro w3 hS Qn
 replace Q2 := Qn
 clear Qn
 replace Q1 := hS.other _ _ ne_k1_k2 Q1
 replace M := hS.mo _ N_k2 M
 clear hS
 refine w_nil (xn_then (w_ret (xr_then ?_)))
 exact w_ret1 _ (.agg #[.int .i64 0, .bool false, .int .u64 0, .int .u64 0, .int .u64 0, .int .u64 0, .int .i64 0, .bool false, .string ⟨#[]⟩, .int .i64 0]) rfl ⟨k2, rfl, (run_row Q2 55 0 10 _ rfl Try.underlying55 rfl zs55)⟩ ⟨by rw [hval0]; rfl, M⟩
theorem value_f (o : Op6) (hSV : SVv w o.p o.vs) (q0 : decide (o.vs.length = 0) = false) : Calls Try.prog 18 #[o.v] w fun e w' => e = .returned (V10.v o.val) ∧ Mo w w' := by
 have hlen := of_decide_eq_false q0
 obtain ⟨xv, hxv⟩ : ∃ x, o.vs[0]? = some x := ⟨o.vs[0]'(by omega), List.getElem?_eq_getElem _⟩
 have hval1 : o.val = xv := by
  unfold Op6.val
  cases e : o.vs with
  | nil => rw [e] at hxv; cases hxv
  | cons x L => rw [e] at hxv; cases hxv; rfl
 obtain ⟨b, off, hpb, hbl, hrg⟩ := hSV 0 xv hxv
 refine w_enter 12 Try.func18 Try.ntmps18 rfl rfl ?_
 have M : Mo w w := Mo.refl _
 refine w_seq (w_reg ?_)
 refine wl_box 31 (.tmp 0) _ (#[.int .i64 (o.d), .int .i64 (o.a), .int .i64 (o.i), .slice o.p o.vs.length o.cap, .int .i64 (o.c), .int .i64 (o.f), .int .i64 (o.e)]) rfl rfl (fun _ => by kernel_rfl) rfl ?_
 intro k1 w1 hk hz hq Q1
 have N_k1 : w.heap.size ≤ k1 := by have := M.size; omega
 replace M := M.trans hq
 clear hk hz hq
 refine wl_alloc 55 #[.int .i64 0, .bool false, .int .u64 0, .int .u64 0, .int .u64 0, .int .u64 0, .int .i64 0, .bool false, .string ⟨#[]⟩, .int .i64 0] rfl (fun _ => by kernel_rfl) rfl ?_
 intro k2 w2 hk hz hq Q2
 have ne_k1_k2 : k1 ≠ k2 := by have := Q1.lt; omega
 have N_k2 : w.heap.size ≤ k2 := by have := M.size; omega
 replace Q1 := Q1.mo hq
 replace M := M.trans hq
 clear hk hz hq
 refine w_nil (xn_then (w_seq (w_seq (w_reg ?_))))
 refine wl_f 31 3 (.tmp 1) (pt k1 0) (pt k1 3) ?_
 refine wl_l 29 (.tmp 3) (pt k1 3) (.slice o.p o.vs.length o.cap) (run_one Q1 29 3 rfl Try.underlying29 rfl) ?_
 refine wl_val (.int .i64 ((o.vs.length : Nat) : Int)) (len29 _ _ _ _ _ (by exact rfl) _ _ _ _ _ _) rfl ?_
 refine wl_b .eql 3 (.tmp 5) (.const (.int .i64 (0))) (.int .i64 ((o.vs.length : Nat) : Int)) (.int .i64 (0)) (.bool false) (eqI (by rw [← q0]; exact decide_eq_decide.2 (by omega)) _ _ _) ?_
 refine w_nil (xn_then (w_condF rfl (w_skip (xn_then (w_seq (w_reg ?_))))))
 refine wl_f 31 3 (.tmp 1) (pt k1 0) (pt k1 3) ?_
 refine wl_l 29 (.tmp 8) (pt k1 3) (.slice o.p o.vs.length o.cap) (run_one Q1 29 3 rfl Try.underlying29 rfl) ?_
 refine wl_bin (fun x y => Instr.indexAt 29 x y) (.tmp 9) (.const (.int .i64 (0))) (.slice o.p o.vs.length o.cap) (.int .i64 (0)) (pt b (off + 0 * 10)) (fun _ => rfl) rfl rfl (by rw [hpb]; exact ix29 b off 0 _ _ (by omega) _) rfl ?_
 refine wl_l 55 (.tmp 10) (pt b (off + 0 * 10)) (V10.v xv) (ld55 (fun j v hv => (M.cell b _ hbl).trans (hrg j v hv))) ?_
 refine wl_st 55 (.tmp 2) (.tmp 11) k2 0 ((V10.cells xv).toArray) _ (V10.cells xv) Q2 rfl rfl rfl rfl rfl zs55 rfl rfl rfl ?_
 intro w3 hS Qn
 replace Q2 := Qn
 clear Qn
 replace Q1 := hS.other _ _ ne_k1_k2 Q1
 replace M := hS.mo _ N_k2 M
 clear hS
 refine w_nil (xn_then (w_ret ?_))
 exact w_ret1 _ (V10.v xv) rfl ⟨k2, rfl, (run_row Q2 55 0 10 (V10.cells xv) rfl Try.underlying55 rfl zs55)⟩ ⟨by rw [hval1], M⟩
theorem value_n (o : Op6) (hSV : SVv w o.p o.vs) : Calls Try.prog 18 #[o.v] w fun e w' => e = .returned (V10.v o.val) ∧ Mo w w' := by
 by_cases h : o.vs.length = 0
 ·exact value_t o (decide_eq_true h)
 ·exact value_f o hSV (decide_eq_false h)
end
end G
end Go.Proofs.Ythfemlhmnjfjiaa
/-
 begun: three rows put in, one set anew.
-/
namespace Go.Proofs.Ythfemlhmnjfjiaa
open Go.RowKit
namespace G
theorem svv_one {w : World} {k : Nat} {x : V10} (h : At w k x.cells) : SVv w (some ⟨k, 0, none⟩) [x] := fun i y e => by
 match i, e with
 | 0, e => cases e; exact ⟨k, 0, rfl, h.2.2, fun j v hv => by have := h.1 j v hv; rw [show 0 + 0 * 10 + j = 0 + j by omega]; exact this⟩
 | i + 1, e => simp at e
theorem sn_one {w : World} {k : Nat} {x : Int} (h : At w k [.int .i64 x]) : SN w (some ⟨k, 0, none⟩) [x] := fun i y e => by
 match i, e with
 | 0, e => cases e; exact ⟨k, 0, rfl, h.2.2, fun j v hv => by have := h.1 j v hv; rw [show 0 + 0 * 1 + j = 0 + j by omega]; exact this⟩
 | i + 1, e => simp at e
section
variable {o : Oper} {n : Nat} {l : List (Nat × Value)} {w : World} {ops : Array Oper} {rest : List Oper} {Q : Exit → Act → World → Prop}
theorem bs22 (a : Int) (w : World) : (Instr.buildSlice 22 1 #[(0, .int .i64 a)]).run Try.prog w = .ok (.slice (some ⟨w.heap.size, 0, none⟩) 1 1) (w.alloc (.cells #[.int .i64 a] 3)) := by kernel_rfl
theorem bs29 (x : V10) (w : World) : (Instr.buildSlice 29 1 #[(0, x.v)]).run Try.prog w = .ok (.slice (some ⟨w.heap.size, 0, none⟩) 1 1) (w.alloc (.cells x.cells.toArray 55)) := by kernel_rfl
theorem wl_bs22_1 (x : Operand) (a : Int) (ho : o.op = .buildSlice 22 1 #[(0, x)]) (hx : evl n l x = .int .i64 a) (hg : wnt n l ops o = true)
  (hk : ∀ k w', w.heap.size = k → w'.heap.size = k + 1 → Mo w w' → At w' k [.int .i64 a] → WL Try.prog ops Q rest n (ext l o.dst (.slice (some ⟨k, 0, none⟩) 1 1)) w') : WL Try.prog ops Q (o :: rest) n l w :=
 ⟨l_step hg (o_val (.slice (some ⟨w.heap.size, 0, none⟩) 1 1) (w' := w.alloc (.cells #[.int .i64 a] 3)) (by
  have h := bs22 a w
  simp only [execOp, ho, List.map_toArray, List.map_cons, List.map_nil, hx, Sem.run_bind, h, Result.andThen_ok]
  simp) (hk _ _ rfl (by simp) ((Mo.refl _).alloc _ _) (At.new w _ 3)).out)⟩
theorem wl_bs29_1 (x : Operand) (a : V10) (ho : o.op = .buildSlice 29 1 #[(0, x)]) (hx : evl n l x = a.v) (hg : wnt n l ops o = true)
  (hk : ∀ k w', w.heap.size = k → w'.heap.size = k + 1 → Mo w w' → At w' k a.cells → WL Try.prog ops Q rest n (ext l o.dst (.slice (some ⟨k, 0, none⟩) 1 1)) w') : WL Try.prog ops Q (o :: rest) n l w :=
 ⟨l_step hg (o_val (.slice (some ⟨w.heap.size, 0, none⟩) 1 1) (w' := w.alloc (.cells a.cells.toArray 55)) (by
  have h := bs29 a w
  simp only [execOp, ho, List.map_toArray, List.map_cons, List.map_nil, hx, Sem.run_bind, h, Result.andThen_ok]
  simp) (hk _ _ rfl (by simp) ((Mo.refl _).alloc _ _) (At.new w _ 55)).out)⟩
end
theorem eqU {a b : Int} {r : Bool} (h : decide (a = b) = r) (x y : Operand) (w : World) : (do eqGuard .eql 34 x y (.int .u64 a) (.int .u64 b); binOp .eql 34 (.int .u64 a) (.int .u64 b)).run Try.prog w = .ok (.bool r) w := by
 have e : (do eqGuard .eql 34 x y (.int .u64 a) (.int .u64 b); binOp .eql 34 (.int .u64 a) (.int .u64 b)).run Try.prog w = .ok (.bool (a == b)) w := by kernel_rfl
 rw [e, ← h]; rfl
theorem Ins.td {tr tr' : T} {at0 : Int} {y : Py} {kn : Nat} (h : Ins tr at0 y kn tr') : tr'.ids = tr.ids.take at0.toNat ++ y :: tr.ids.drop at0.toNat := by
 obtain ⟨A, B, h1, h2, h3⟩ := h.ids
 rw [h1, h3, show at0.toNat = A.length by omega, List.take_left, List.drop_left]
theorem insE_of {tr : T} {nc nv : Nat} {at0 id : Int} (h0 : nv = nc) (h1 : id ∉ tr.is) (h2 : 1 ≤ id) (h3 : id ≤ 9007199254740992) (h4 : tr.sz < 1024) (h5 : 0 ≤ at0) (h6 : at0 ≤ tr.sz) : insE nc tr at0 id nv = 0 := by
 unfold insE
 rw [if_neg (fun h => h h0), if_neg (by omega), if_neg h1, if_neg (by omega), if_neg (by omega)]
def x250 : V10 := ⟨1, ⟨false, 250, 2⟩, false, ⟨#[]⟩, 0⟩
def x100 : V10 := ⟨1, ⟨true, 100, 2⟩, false, ⟨#[]⟩, 0⟩
def x400 : V10 := ⟨1, ⟨false, 400, 2⟩, false, ⟨#[]⟩, 0⟩
section
variable {w : World}
theorem x250_ok : x250.n.ok := ⟨by decide, by unfold x250 MM; decide⟩
theorem x100_ok : x100.n.ok := ⟨by decide, by unfold x100 MM; decide⟩
theorem x400_ok : x400.n.ok := ⟨by decide, by unfold x400 MM; decide⟩
theorem v0_ok : v0.n.ok := d0_ok
theorem begun_n (w : World) : Calls Try.prog 8 #[] w fun e w' => e = .returned (.bool true) ∧ Mo w w' := by
 have e0 : T.e.ids = [] := rfl
 refine w_enter 84 Try.func8 Try.ntmps8 rfl rfl ?_
 have M : Mo w w := Mo.refl _
 refine w_seq (w_reg ?_)
 refine wl_m (.const (.bool false)) (.bool false) ?_
 refine w_nil (xn_then (w_seq (w_reg ?_)))
 refine wl_bs22_1 (.const (.int .i64 (2))) (2) rfl rfl rfl ?_
 intro k1 w1 hk hz hq Q1
 have N_k1 : w.heap.size ≤ k1 := by have := M.size; omega
 replace M := M.trans hq
 clear hk hz hq
 refine wl_callx 7 [(.tmp 8)] _ [.slice (some ⟨k1, 0, none⟩) 1 1] rfl rfl (fun _ _ => by kernel_rfl) (new_g (n0 := w.heap.size) (ks := [k1]) (sc := [2]) (sn_one Q1) (by decide) M.size (fun j e => by rw [List.mem_singleton.1 e]; exact Q1.2.2)) rfl ?_
 rintro _ w2 ⟨t, mb, rfl, hG, hsc, ht9, hq⟩
 refine ⟨_, rfl, ?_⟩
 replace M := M.trans hq
 replace Q1 := Q1.mo hq
 clear hq
 refine wl_m (.tmp 9) (.tuple #[pt t 0, .int .i64 (0)]) ?_
 refine wl_un (fun v => Instr.extract v 0) (.tmp 7) (.tuple #[pt t 0, .int .i64 (0)]) (pt t 0) (fun _ => rfl) rfl (by kernel_rfl) rfl ?_
 refine wl_un (fun v => Instr.extract v 1) (.tmp 7) (.tuple #[pt t 0, .int .i64 (0)]) (.int .i64 (0)) (fun _ => rfl) rfl (by kernel_rfl) rfl ?_
 refine wl_m (.tmp 10) (pt t 0) ?_
 refine wl_m (.tmp 11) (.int .i64 (0)) ?_
 refine w_nil (xn_then (w_seq (w_seq (w_reg ?_))))
 refine wl_m (.tmp 1) (pt t 0) ?_
 refine wl_b .eql 24 (.tmp 12) (.const (.pointer none)) (pt t 0) (pp none) (.bool false) (eqT _ _ _ _) ?_
 refine wl_m (.tmp 13) (.bool false) ?_
 refine wl_m (.tmp 2) (.int .i64 (0)) ?_
 refine wl_b .neq 25 (.tmp 15) (.const (.int .i64 (0))) (.int .i64 (0)) (.int .i64 (0)) (.bool false) (by kernel_rfl) ?_
 refine wl_pick (.tmp 14) (.const (.bool true)) (.tmp 16) false (.bool false) (fun _ => rfl) rfl rfl rfl ?_
 refine wl_m (.tmp 17) (.bool false) ?_
 refine wl_m (.tmp 1) (pt t 0) ?_
 refine wl_call 28 [(.const (.int .i64 (250))), (.const (.int .i64 (2)))] _ [.int .i64 (250), .int .i64 (2)] (V10.v x250) rfl rfl (fun _ _ => by kernel_rfl) (num_p (n := 250) (s := 2) (by decide) rfl rfl rfl) rfl ?_
 intro w3 hq
 replace Q1 := Q1.mo hq
 replace hG := hG.mo hq
 replace M := M.trans hq
 clear hq
 refine wl_bs29_1 (.tmp 20) x250 rfl rfl rfl ?_
 intro k2 w4 hk hz hq Q2
 have ne_k1_k2 : k1 ≠ k2 := by have := Q1.lt; omega
 have N_k2 : w.heap.size ≤ k2 := by have := M.size; omega
 replace hG := hG.push (Nat.le_of_eq hk) (by omega) hq
 replace Q1 := Q1.mo hq
 replace M := M.trans hq
 clear hk hz hq
 refine wl_callx 9 [(.tmp 19), (.const (.int .i64 (0))), (.const (.int .i64 (1))), (.tmp 21)] _ [pt t 0, .int .i64 (0), .int .i64 (1), .slice (some ⟨k2, 0, none⟩) 1 1] rfl rfl (fun _ _ => by kernel_rfl) (insert_g (vs := [x250]) hG (insE_of (by rw [hsc]; rfl) (by unfold T.is; rw [e0]; show (1 : Int) ∉ ([] : List Int); decide) (by decide) (by decide) (by rw [T.sz_ids, e0]; show ((0 : Nat) : Int) < 1024; decide) (by decide) (by rw [T.sz_ids, e0]; show (0 : Int) ≤ ((0 : Nat) : Int); decide)) (by omega) (fun w9 m9 => svv_one (Wr.at m9 Q2 (by simp))) (fun z hz => by rw [List.mem_singleton.1 hz]; exact x250_ok)) rfl ?_
 rintro _ w5 ⟨y1, kn1, tr1, lk1, rfl, hI1, hG, hl1, hu1, hM2⟩
 refine ⟨_, rfl, ?_⟩
 have e1 : tr1.ids = [⟨1, y1, [x250]⟩] := by have := hI1.td; rw [e0] at this; exact this
 replace hu1 : lk1 ≤ 0 + 10 * 1024 + 8 := by have := T.ht_le .e; have := T.sz_ids .e; rw [e0] at this; simp only [List.length_nil] at this; omega
 clear hI1
 replace M := Wr.mo hM2 M (Nat.le_refl _)
 replace Q1 := Wr.at hM2 Q1 (by simp)
 replace Q2 := Wr.at hM2 Q2 (by simp)
 clear hM2
 refine wl_b .neq 25 (.tmp 22) (.const (.int .i64 (0))) (.int .i64 (0)) (.int .i64 (0)) (.bool false) (by kernel_rfl) ?_
 refine wl_pick (.tmp 18) (.const (.bool true)) (.tmp 23) false (.bool false) (fun _ => rfl) rfl rfl rfl ?_
 refine wl_m (.tmp 24) (.bool false) ?_
 refine wl_m (.tmp 1) (pt t 0) ?_
 refine wl_build 55 [] [] (.agg #[.int .i64 0, .bool false, .int .u64 0, .int .u64 0, .int .u64 0, .int .u64 0, .int .i64 0, .bool false, .string ⟨#[]⟩, .int .i64 0]) rfl rfl (by kernel_rfl) rfl ?_
 refine wl_bs29_1 (.tmp 27) v0 rfl rfl rfl ?_
 intro k3 w6 hk hz hq Q3
 have ne_k1_k3 : k1 ≠ k3 := by have := Q1.lt; omega
 have ne_k2_k3 : k2 ≠ k3 := by have := Q2.lt; omega
 have N_k3 : w.heap.size ≤ k3 := by have := M.size; omega
 replace hG := hG.push (Nat.le_of_eq hk) (by omega) hq
 replace Q1 := Q1.mo hq
 replace Q2 := Q2.mo hq
 replace M := M.trans hq
 clear hk hz hq
 refine wl_callx 9 [(.tmp 26), (.const (.int .i64 (1))), (.const (.int .i64 (2))), (.tmp 28)] _ [pt t 0, .int .i64 (1), .int .i64 (2), .slice (some ⟨k3, 0, none⟩) 1 1] rfl rfl (fun _ _ => by kernel_rfl) (insert_g (vs := [v0]) hG (insE_of (by rw [hsc]; rfl) (by unfold T.is; rw [e1]; show (2 : Int) ∉ ([1] : List Int); decide) (by decide) (by decide) (by rw [T.sz_ids, e1]; show ((1 : Nat) : Int) < 1024; decide) (by decide) (by rw [T.sz_ids, e1]; show (1 : Int) ≤ ((1 : Nat) : Int); decide)) (by omega) (fun w9 m9 => svv_one (Wr.at m9 Q3 (by simp))) (fun z hz => by rw [List.mem_singleton.1 hz]; exact v0_ok)) rfl ?_
 rintro _ w7 ⟨y2, kn2, tr2, lk2, rfl, hI2, hG, hl2, hu2, hM2⟩
 refine ⟨_, rfl, ?_⟩
 have e2 : tr2.ids = [⟨1, y1, [x250]⟩, ⟨2, y2, [v0]⟩] := by have := hI2.td; rw [e1] at this; exact this
 replace hu2 : lk2 ≤ lk1 + 10 * 1024 + 8 := by have := T.ht_le tr1; have := T.sz_ids tr1; rw [e1] at this; simp only [List.length_cons, List.length_nil] at this; omega
 clear hI2
 replace M := Wr.mo hM2 M (Nat.le_refl _)
 replace Q1 := Wr.at hM2 Q1 (by simp)
 replace Q2 := Wr.at hM2 Q2 (by simp)
 replace Q3 := Wr.at hM2 Q3 (by simp)
 clear hM2
 refine wl_b .neq 25 (.tmp 29) (.const (.int .i64 (0))) (.int .i64 (0)) (.int .i64 (0)) (.bool false) (by kernel_rfl) ?_
 refine wl_pick (.tmp 25) (.const (.bool true)) (.tmp 30) false (.bool false) (fun _ => rfl) rfl rfl rfl ?_
 refine wl_m (.tmp 31) (.bool false) ?_
 refine wl_m (.tmp 1) (pt t 0) ?_
 refine wl_call 28 [(.const (.int .i64 (-100))), (.const (.int .i64 (2)))] _ [.int .i64 (-100), .int .i64 (2)] (V10.v x100) rfl rfl (fun _ _ => by kernel_rfl) (num_m (n := -100) (s := 2) (by decide) rfl rfl rfl) rfl ?_
 intro w8 hq
 replace Q1 := Q1.mo hq
 replace Q2 := Q2.mo hq
 replace Q3 := Q3.mo hq
 replace hG := hG.mo hq
 replace M := M.trans hq
 clear hq
 refine wl_bs29_1 (.tmp 34) x100 rfl rfl rfl ?_
 intro k4 w9 hk hz hq Q4
 have ne_k1_k4 : k1 ≠ k4 := by have := Q1.lt; omega
 have ne_k2_k4 : k2 ≠ k4 := by have := Q2.lt; omega
 have ne_k3_k4 : k3 ≠ k4 := by have := Q3.lt; omega
 have N_k4 : w.heap.size ≤ k4 := by have := M.size; omega
 replace hG := hG.push (Nat.le_of_eq hk) (by omega) hq
 replace Q1 := Q1.mo hq
 replace Q2 := Q2.mo hq
 replace Q3 := Q3.mo hq
 replace M := M.trans hq
 clear hk hz hq
 refine wl_callx 9 [(.tmp 33), (.const (.int .i64 (1))), (.const (.int .i64 (3))), (.tmp 35)] _ [pt t 0, .int .i64 (1), .int .i64 (3), .slice (some ⟨k4, 0, none⟩) 1 1] rfl rfl (fun _ _ => by kernel_rfl) (insert_g (vs := [x100]) hG (insE_of (by rw [hsc]; rfl) (by unfold T.is; rw [e2]; show (3 : Int) ∉ ([1, 2] : List Int); decide) (by decide) (by decide) (by rw [T.sz_ids, e2]; show ((2 : Nat) : Int) < 1024; decide) (by decide) (by rw [T.sz_ids, e2]; show (1 : Int) ≤ ((2 : Nat) : Int); decide)) (by omega) (fun w9 m9 => svv_one (Wr.at m9 Q4 (by simp))) (fun z hz => by rw [List.mem_singleton.1 hz]; exact x100_ok)) rfl ?_
 rintro _ w10 ⟨y3, kn3, tr3, lk3, rfl, hI3, hG, hl3, hu3, hM2⟩
 refine ⟨_, rfl, ?_⟩
 have e3 : tr3.ids = [⟨1, y1, [x250]⟩, ⟨3, y3, [x100]⟩, ⟨2, y2, [v0]⟩] := by have := hI3.td; rw [e2] at this; exact this
 replace hu3 : lk3 ≤ lk2 + 10 * 1024 + 8 := by have := T.ht_le tr2; have := T.sz_ids tr2; rw [e2] at this; simp only [List.length_cons, List.length_nil] at this; omega
 clear hI3
 replace M := Wr.mo hM2 M (Nat.le_refl _)
 replace Q1 := Wr.at hM2 Q1 (by simp)
 replace Q2 := Wr.at hM2 Q2 (by simp)
 replace Q3 := Wr.at hM2 Q3 (by simp)
 replace Q4 := Wr.at hM2 Q4 (by simp)
 clear hM2
 refine wl_b .neq 25 (.tmp 36) (.const (.int .i64 (0))) (.int .i64 (0)) (.int .i64 (0)) (.bool false) (by kernel_rfl) ?_
 refine wl_pick (.tmp 32) (.const (.bool true)) (.tmp 37) false (.bool false) (fun _ => rfl) rfl rfl rfl ?_
 refine w_nil (xn_then (w_condF rfl (w_skip (xn_then (w_seq (w_reg ?_))))))
 refine wl_m (.tmp 1) (pt t 0) ?_
 refine wl_callx 12 [(.tmp 40), (.const (.int .i64 (0)))] _ [pt t 0, .int .i64 (0)] rfl rfl (fun _ _ => by kernel_rfl) (sum_any hG (by omega)) rfl ?_
 rintro _ w11 ⟨Sa, cd1, lk40, rfl, hG, hc9, hv1, hw1, hM2⟩
 refine ⟨_, rfl, ?_⟩
 obtain ⟨_, rfl, hSa⟩ : _ ∧ _ ∧ _ := hc9.resolve_right (fun h => h.1 (by rw [hsc]; decide))
 replace hSa : Sa = col 0 2 [⟨1, y1, [x250]⟩, ⟨3, y3, [x100]⟩, ⟨2, y2, [v0]⟩] := by rw [hSa, hsc, e3]; rfl
 have qf : decide (Sa.f = 2) = true := by rw [hSa]; rfl
 have qk : decide (Sa.k = 1) = true := by rw [hSa]; rfl
 have qt : decide (l0 (Sa).tt = 150) = true := by rw [hSa]; rfl
 clear hc9
 replace M := Wr.mo hM2 M (Nat.le_refl _)
 replace Q1 := Wr.at hM2 Q1 (by simp)
 replace Q2 := Wr.at hM2 Q2 (by simp)
 replace Q3 := Wr.at hM2 Q3 (by simp)
 replace Q4 := Wr.at hM2 Q4 (by simp)
 clear hM2
 refine wl_m (.tmp 41) (.tuple #[smv Sa, .int .i64 (0)]) ?_
 refine wl_un (fun v => Instr.extract v 0) (.tmp 39) (.tuple #[smv Sa, .int .i64 (0)]) (smv Sa) (fun _ => rfl) rfl (by kernel_rfl) rfl ?_
 refine wl_un (fun v => Instr.extract v 1) (.tmp 39) (.tuple #[smv Sa, .int .i64 (0)]) (.int .i64 (0)) (fun _ => rfl) rfl (by kernel_rfl) rfl ?_
 refine wl_alloc 42 #[.int .i64 0, .int .i64 0, .int .i64 0, .int .i64 0, .int .i64 0, .int .u64 0, .int .u64 0, .int .u64 0, .int .u64 0, .int .u64 0, .bool false, .bool false, .int .u64 0, .int .u64 0, .int .u64 0, .int .u64 0, .int .i64 0, .bool false, .int .u64 0, .int .u64 0, .int .u64 0, .int .u64 0, .int .i64 0] rfl (fun _ => by kernel_rfl) rfl ?_
 intro k5 w12 hk hz hq Q5
 have ne_k1_k5 : k1 ≠ k5 := by have := Q1.lt; omega
 have ne_k2_k5 : k2 ≠ k5 := by have := Q2.lt; omega
 have ne_k3_k5 : k3 ≠ k5 := by have := Q3.lt; omega
 have ne_k4_k5 : k4 ≠ k5 := by have := Q4.lt; omega
 have N_k5 : w.heap.size ≤ k5 := by have := M.size; omega
 replace hG := hG.push (Nat.le_of_eq hk) (by omega) hq
 replace Q1 := Q1.mo hq
 replace Q2 := Q2.mo hq
 replace Q3 := Q3.mo hq
 replace Q4 := Q4.mo hq
 replace M := M.trans hq
 clear hk hz hq
 refine wl_stx2 42 (.tmp 3) (.tmp 42) k5 0 ((sml Sa).toArray) _ (sml Sa) Q5 rfl rfl rfl rfl rfl zs42 rfl rfl rfl ?_
 intro w13 hT Qn
 replace Q5 := Qn
 clear Qn
 replace Q1 := hT.other _ _ ne_k1_k5 Q1
 replace Q2 := hT.other _ _ ne_k2_k5 Q2
 replace Q3 := hT.other _ _ ne_k3_k5 Q3
 replace Q4 := hT.other _ _ ne_k4_k5 Q4
 replace hG := hG.st hT (by simp)
 replace M := (Mk.refl (fun j => j = k5) _ |>.st hT rfl).mo M (fun _ e => e ▸ N_k5)
 clear hT
 refine wl_m (.tmp 43) (.int .i64 (0)) ?_
 refine w_nil (xn_then (w_seq (w_reg ?_)))
 refine wl_m (.tmp 1) (pt t 0) ?_
 refine wl_call 28 [(.const (.int .i64 (400))), (.const (.int .i64 (2)))] _ [.int .i64 (400), .int .i64 (2)] (V10.v x400) rfl rfl (fun _ _ => by kernel_rfl) (num_p (n := 400) (s := 2) (by decide) rfl rfl rfl) rfl ?_
 intro w14 hq
 replace Q1 := Q1.mo hq
 replace Q2 := Q2.mo hq
 replace Q3 := Q3.mo hq
 replace Q4 := Q4.mo hq
 replace Q5 := Q5.mo hq
 replace hG := hG.mo hq
 replace M := M.trans hq
 clear hq
 refine wl_callx 17 [(.tmp 44), (.const (.int .i64 (3))), (.const (.int .i64 (0))), (.tmp 45)] _ [pt t 0, .int .i64 (3), .int .i64 (0), V10.v x400] rfl rfl (fun _ _ => by kernel_rfl) (set_any (x := x400) hG ⟨by decide, by decide⟩ x400_ok (by omega)) rfl ?_
 rintro _ w15 ⟨cc9, tr4, lk4, rfl, hG, hc9, hl7, hu7, hM2⟩
 refine ⟨_, rfl, ?_⟩
 rcases hc9 with ⟨rfl, _, _, ⟨A9, B9, y9, hA9, hy9, hB9, _⟩, _⟩ | ⟨hno, _, _⟩
 rotate_left
 ·exfalso
  rcases hno with ⟨_, h⟩ | ⟨_, _, _, h⟩
  ·rw [hsc] at h; simp at h
  ·exact h (by unfold T.is; rw [e3]; show (3 : Int) ∈ ([1, 3, 2] : List Int); decide)
 have e4 : tr4.ids = [⟨1, y1, [x250]⟩, ⟨3, y3, [x400]⟩, ⟨2, y2, [v0]⟩] := by
  rw [e3] at hA9
  rw [hB9]
  match A9, hA9 with
  | [], h => cases h; cases hy9
  | [a], h => cases h; rfl
  | [a, b], h => cases h; cases hy9
  | a :: b :: c :: L, h => simp at h
 clear hA9 hB9 hy9
 replace hu7 : lk4 ≤ lk40 + 3 * 1024 := by have := T.ht_le tr3; have := T.sz_ids tr3; rw [e3] at this; simp only [List.length_cons, List.length_nil] at this; omega
 replace M := Wr.mo hM2 M (Nat.le_refl _)
 replace Q1 := Wr.at hM2 Q1 (by simp)
 replace Q2 := Wr.at hM2 Q2 (by simp)
 replace Q3 := Wr.at hM2 Q3 (by simp)
 replace Q4 := Wr.at hM2 Q4 (by simp)
 replace Q5 := Wr.at hM2 Q5 (by simp)
 clear hM2
 refine wl_m (.tmp 46) (.int .i64 (0)) ?_
 refine w_nil (xn_then (w_seq (w_reg ?_)))
 refine wl_m (.tmp 1) (pt t 0) ?_
 refine wl_callx 12 [(.tmp 48), (.const (.int .i64 (0)))] _ [pt t 0, .int .i64 (0)] rfl rfl (fun _ _ => by kernel_rfl) (sum_any hG (by omega)) rfl ?_
 rintro _ w16 ⟨Sb, cd2, lk50, rfl, hG, hc9, hv2, hw2, hM2⟩
 refine ⟨_, rfl, ?_⟩
 obtain ⟨_, rfl, hSb⟩ : _ ∧ _ ∧ _ := hc9.resolve_right (fun h => h.1 (by rw [hsc]; decide))
 replace hSb : Sb = col 0 2 [⟨1, y1, [x250]⟩, ⟨3, y3, [x400]⟩, ⟨2, y2, [v0]⟩] := by rw [hSb, hsc, e4]; rfl
 have qu : decide (l0 (Sb).tt = 650) = true := by rw [hSb]; rfl
 clear hc9
 replace M := Wr.mo hM2 M (Nat.le_refl _)
 replace Q1 := Wr.at hM2 Q1 (by simp)
 replace Q2 := Wr.at hM2 Q2 (by simp)
 replace Q3 := Wr.at hM2 Q3 (by simp)
 replace Q4 := Wr.at hM2 Q4 (by simp)
 replace Q5 := Wr.at hM2 Q5 (by simp)
 clear hM2
 refine wl_m (.tmp 49) (.tuple #[smv Sb, .int .i64 (0)]) ?_
 refine wl_un (fun v => Instr.extract v 0) (.tmp 47) (.tuple #[smv Sb, .int .i64 (0)]) (smv Sb) (fun _ => rfl) rfl (by kernel_rfl) rfl ?_
 refine wl_un (fun v => Instr.extract v 1) (.tmp 47) (.tuple #[smv Sb, .int .i64 (0)]) (.int .i64 (0)) (fun _ => rfl) rfl (by kernel_rfl) rfl ?_
 refine wl_alloc 42 #[.int .i64 0, .int .i64 0, .int .i64 0, .int .i64 0, .int .i64 0, .int .u64 0, .int .u64 0, .int .u64 0, .int .u64 0, .int .u64 0, .bool false, .bool false, .int .u64 0, .int .u64 0, .int .u64 0, .int .u64 0, .int .i64 0, .bool false, .int .u64 0, .int .u64 0, .int .u64 0, .int .u64 0, .int .i64 0] rfl (fun _ => by kernel_rfl) rfl ?_
 intro k6 w17 hk hz hq Q6
 have ne_k1_k6 : k1 ≠ k6 := by have := Q1.lt; omega
 have ne_k2_k6 : k2 ≠ k6 := by have := Q2.lt; omega
 have ne_k3_k6 : k3 ≠ k6 := by have := Q3.lt; omega
 have ne_k4_k6 : k4 ≠ k6 := by have := Q4.lt; omega
 have ne_k5_k6 : k5 ≠ k6 := by have := Q5.lt; omega
 have N_k6 : w.heap.size ≤ k6 := by have := M.size; omega
 replace hG := hG.push (Nat.le_of_eq hk) (by omega) hq
 replace Q1 := Q1.mo hq
 replace Q2 := Q2.mo hq
 replace Q3 := Q3.mo hq
 replace Q4 := Q4.mo hq
 replace Q5 := Q5.mo hq
 replace M := M.trans hq
 clear hk hz hq
 refine wl_stx2 42 (.tmp 5) (.tmp 50) k6 0 ((sml Sb).toArray) _ (sml Sb) Q6 rfl rfl rfl rfl rfl zs42 rfl rfl rfl ?_
 intro w18 hT Qn
 replace Q6 := Qn
 clear Qn
 replace Q1 := hT.other _ _ ne_k1_k6 Q1
 replace Q2 := hT.other _ _ ne_k2_k6 Q2
 replace Q3 := hT.other _ _ ne_k3_k6 Q3
 replace Q4 := hT.other _ _ ne_k4_k6 Q4
 replace Q5 := hT.other _ _ ne_k5_k6 Q5
 replace hG := hG.st hT (by simp)
 replace M := (Mk.refl (fun j => j = k6) _ |>.st hT rfl).mo M (fun _ e => e ▸ N_k6)
 clear hT
 refine wl_m (.tmp 51) (.int .i64 (0)) ?_
 refine w_nil (xn_then (w_seq (w_reg ?_)))
 refine wl_m (.tmp 2) (.int .i64 (0)) ?_
 refine wl_b .eql 25 (.tmp 52) (.const (.int .i64 (0))) (.int .i64 (0)) (.int .i64 (0)) (.bool true) (by kernel_rfl) ?_
 refine wl_m (.tmp 53) (.bool true) ?_
 refine wl_m (.tmp 4) (.int .i64 (0)) ?_
 refine wl_b .eql 25 (.tmp 55) (.const (.int .i64 (0))) (.int .i64 (0)) (.int .i64 (0)) (.bool true) (by kernel_rfl) ?_
 refine wl_pick (.tmp 54) (.tmp 56) (.const (.bool false)) true (.bool true) (fun _ => rfl) rfl rfl rfl ?_
 refine wl_m (.tmp 57) (.bool true) ?_
 refine wl_m (.tmp 6) (.int .i64 (0)) ?_
 refine wl_b .eql 25 (.tmp 59) (.const (.int .i64 (0))) (.int .i64 (0)) (.int .i64 (0)) (.bool true) (by kernel_rfl) ?_
 refine wl_pick (.tmp 58) (.tmp 60) (.const (.bool false)) true (.bool true) (fun _ => rfl) rfl rfl rfl ?_
 refine wl_m (.tmp 61) (.bool true) ?_
 refine wl_f 42 1 (.tmp 3) (pt k5 0) (pt k5 1) ?_
 refine wl_l 3 (.tmp 63) (pt k5 1) (.int .i64 (Sa).f) (run_one Q5 3 1 rfl Try.underlying3 rfl) ?_
 refine wl_b .eql 3 (.tmp 64) (.const (.int .i64 (2))) (.int .i64 (Sa).f) (.int .i64 (2)) (.bool true) (eqI qf _ _ _) ?_
 refine wl_pick (.tmp 62) (.tmp 65) (.const (.bool false)) true (.bool true) (fun _ => rfl) rfl rfl rfl ?_
 refine wl_m (.tmp 66) (.bool true) ?_
 refine wl_f 42 2 (.tmp 3) (pt k5 0) (pt k5 2) ?_
 refine wl_l 3 (.tmp 68) (pt k5 2) (.int .i64 (Sa).k) (run_one Q5 3 2 rfl Try.underlying3 rfl) ?_
 refine wl_b .eql 3 (.tmp 69) (.const (.int .i64 (1))) (.int .i64 (Sa).k) (.int .i64 (1)) (.bool true) (eqI qk _ _ _) ?_
 refine wl_pick (.tmp 67) (.tmp 70) (.const (.bool false)) true (.bool true) (fun _ => rfl) rfl rfl rfl ?_
 refine wl_m (.tmp 71) (.bool true) ?_
 refine wl_f 42 5 (.tmp 3) (pt k5 0) (pt k5 5) ?_
 refine wl_bin (fun x y => Instr.indexAt 36 x y) (.tmp 73) (.const (.int .i64 (0))) (pt k5 5) (.int .i64 (0)) (pt k5 5) (fun _ => rfl) rfl rfl (by kernel_rfl) rfl ?_
 refine wl_l 34 (.tmp 74) (pt k5 5) (.int .u64 (l0 (Sa).tt)) (run_one Q5 34 5 rfl Try.underlying34 rfl) ?_
 refine wl_b .eql 34 (.tmp 75) (.const (.int .u64 (150))) (.int .u64 (l0 (Sa).tt)) (.int .u64 (150)) (.bool true) (eqU qt _ _ _) ?_
 refine wl_pick (.tmp 72) (.tmp 76) (.const (.bool false)) true (.bool true) (fun _ => rfl) rfl rfl rfl ?_
 refine wl_m (.tmp 77) (.bool true) ?_
 refine wl_f 42 5 (.tmp 5) (pt k6 0) (pt k6 5) ?_
 refine wl_bin (fun x y => Instr.indexAt 36 x y) (.tmp 79) (.const (.int .i64 (0))) (pt k6 5) (.int .i64 (0)) (pt k6 5) (fun _ => rfl) rfl rfl (by kernel_rfl) rfl ?_
 refine wl_l 34 (.tmp 80) (pt k6 5) (.int .u64 (l0 (Sb).tt)) (run_one Q6 34 5 rfl Try.underlying34 rfl) ?_
 refine wl_b .eql 34 (.tmp 81) (.const (.int .u64 (650))) (.int .u64 (l0 (Sb).tt)) (.int .u64 (650)) (.bool true) (eqU qu _ _ _) ?_
 refine wl_pick (.tmp 78) (.tmp 82) (.const (.bool false)) true (.bool true) (fun _ => rfl) rfl rfl rfl ?_
 refine wl_m (.tmp 83) (.bool true) ?_
 refine w_nil (xn_then (w_ret ?_))
 exact w_ret1 _ _ rfl rfl ⟨rfl, M⟩
end
end G
end Go.Proofs.Ythfemlhmnjfjiaa
/-
 Walks within a fence: rounds of a range over a function, iterators, frames with marks among their deferred calls.
-/
namespace Go.Proofs.Ythfemlhmnjfjiaa
open Go.RowKit
namespace G
namespace R
def wd (a : Act) (ds : List Deferred) : Act := { a with defers := a.defers ++ ds }
def Fw (ro : Option Nat) : Fence := { Fence.wide with round := ro }
theorem wd_put (a : Act) (ds : List Deferred) (d : Option Tmp) (v : Value) : wd (a.put d v) ds = (wd a ds).put d v := by cases d <;> rfl
def Wd (ds : List Deferred) (Q : Exit → Act → World → Prop) : Exit → Act → World → Prop
 | .outgrown, _, _ => False
 | e, a, w => Q e (wd a ds) w
theorem wd_out (ds : List Deferred) (Q : Exit → Act → World → Prop) : ¬ LetsOut (Wd ds Q) := fun ⟨_, _, h⟩ => h
def notDefer (o : Oper) : Bool := match o.op with
 | .defer _ => false
 | _ => true
theorem notDefer_spec {o : Oper} (h : notDefer o = true) : ∀ c, o.op ≠ .defer c := fun c e => by simp [notDefer, e] at h
theorem rowsIn_of {ro : Option Nat} {m : Nat} {P : Program} {row : String} {args : Array Value} {w : World} {X : Value → World → Prop} (h : Rows P row args w X) : RowsIn (Fw ro) m P row args w X :=
 fun c cs _ => let ⟨v, w', r, s⟩ := h c cs; ⟨v, w', r, (show StepsIn (Machine.fenced P Fence.wide) P _ _ from stepsIn_wide.2 s)⟩
theorem callsIn_of {ro : Option Nat} {m : Nat} {P : Program} {f : FuncId} {args : Array Value} {w : World} {X : Ending → World → Prop} (h : Calls P f args w X) : CallsIn (Fw ro) m P f args w X := (show CallsIn Fence.wide m P f args w X from callsIn_wide.2 h)
theorem calls_of {m : Nat} {P : Program} {f : FuncId} {args : Array Value} {w : World} {X : Ending → World → Prop} (h : CallsIn (Fw none) m P f args w X) : Calls P f args w X := callsIn_wide.1 (show CallsIn Fence.wide m P f args w X from h)
theorem op_in {ro : Option Nat} {m : Nat} {ds : List Deferred} {P : Program} {o : Oper} {a : Act} {w : World} {K K' : Act → World → Prop} {Q : Exit → Act → World → Prop} (hnd : notDefer o = true) (hK : ∀ a w, K a w → K' (wd a ds) w) (h : o.wp P a w K (Wd ds Q)) : o.wpIn (Fw ro) m P (wd a ds) w K' Q := by
 refine ⟨fun _ _ => trivial, ?_⟩
 have he : (wd a ds).eval = a.eval := rfl
 rw [he, Oper.semAt_eq _ _ _ (notDefer_spec hnd)]
 unfold Oper.wp at h
 cases hr : (execOp a.eval o).run P w with
 | ok x w' =>
  rw [hr] at h
  cases x with
  | value v => have := hK _ _ h; rw [wd_put] at this; exact this
  | skip => have := hK _ _ h; rw [wd_put] at this; exact this
  | defer d => have := hK _ _ h; rw [wd_put] at this; exact this
  | enter f args =>
   refine ⟨(fun e => by cases e), callsIn_of (Calls.mono h ?_)⟩
   intro e w'' q
   cases e with
   | returned v => have := hK _ _ q; rw [wd_put] at this; exact this
   | panicked c => exact q
   | outgrown => exact absurd q (wd_out ds Q)
  | row r args => exact ⟨(fun e => by cases e), rowsIn_of (Rows.mono h (fun v w'' q => by have := hK _ _ q; rw [wd_put] at this; exact this))⟩
  | _ => exact h.elim
 | halt r w' =>
  rw [hr] at h
  cases r with
  | panic v => exact h
  | _ => exact h.elim
theorem list_in {ro : Option Nat} {m : Nat} {ds : List Deferred} {P : Program} {ops : Array Oper} {Q : Exit → Act → World → Prop} : ∀ (r : List Oper) (a : Act) (w : World), r.all notDefer = true → wpList P ops (Wd ds Q) r a w → wpListIn (Fw ro) m P ops Q r (wd a ds) w
 | [], _, _, _, h => h
 | o :: r, a, w, hn, h => by
  simp only [List.all_cons, Bool.and_eq_true] at hn
  unfold wpList at h
  unfold wpListIn
  have e : (wd a ds).tmps = a.tmps := rfl
  rw [e]
  split
  ·rename_i hw
   rw [if_pos hw] at h
   rcases h with h | ⟨_, h⟩
   ·exact op_in hn.1 (fun a w q => list_in r a w hn.2 q) h
   ·exact absurd h (wd_out ds Q)
  ·rename_i hw
   rw [if_neg hw] at h
   refine ⟨fun _ _ => trivial, ?_⟩
   have := list_in (m := m) (ro := ro) r _ w hn.2 h
   rw [wd_put] at this
   exact this
theorem any_in {ro : Option Nat} {m : Nat} {ds : List Deferred} {P : Program} {ops : Array Oper} {md : Region.Mode} {Q : Exit → Act → World → Prop} (hn : ops.all notDefer = true) : ∀ (fuel : Nat) (listed : Array Bool) (a : Act) (w : World), wpAny P md ops (Wd ds Q) fuel listed a w → wpAnyIn (Fw ro) m P md ops Q fuel listed (wd a ds) w
 | 0, _, _, _, h => h
 | fuel + 1, listed, a, w, h => by
  refine ⟨h.1, fun i hi => ?_⟩
  have h1 := h.2 i hi
  unfold wpOp at h1
  unfold wpOpIn
  cases ho : ops[i]? with
  | none => simp only [ho] at h1 ⊢; exact any_in hn fuel _ a w h1
  | some o =>
   simp only [ho] at h1 ⊢
   have hno : notDefer o = true := by
    obtain ⟨hi', e⟩ := Array.getElem?_eq_some_iff.1 ho
    rw [← e]; exact Array.all_eq_true.1 hn i hi'
   have e : (wd a ds).tmps = a.tmps := rfl
   rw [e]
   split
   ·rename_i hw
    rw [if_pos hw] at h1
    rcases h1 with h1 | ⟨_, h1⟩
    ·exact op_in hno (fun a w q => any_in hn fuel _ a w q) h1
    ·exact absurd h1 (wd_out ds Q)
   ·rename_i hw
    rw [if_neg hw] at h1
    refine ⟨fun _ _ => trivial, ?_⟩
    have := any_in (m := m) (ro := ro) hn fuel _ _ w h1
    rw [wd_put] at this
    exact this
structure RC (ro : Option Nat) (m : Nat) (ds : List Deferred) (P : Program) (c : Code) (Q : Exit → Act → World → Prop) (n : Nat) (l : List (Nat × Value)) (w : World) : Prop where
 out : c.wpIn (Fw ro) m P Q (wd (fr n l) ds) w
structure RL (ro : Option Nat) (m : Nat) (ds : List Deferred) (P : Program) (ops : Array Oper) (Q : Exit → Act → World → Prop) (r : List Oper) (n : Nat) (l : List (Nat × Value)) (w : World) : Prop where
 out : wpListIn (Fw ro) m P ops Q r (wd (fr n l) ds) w
section
variable {ro : Option Nat} {m : Nat} {ds : List Deferred} {P : Program} {o : Oper} {n : Nat} {l : List (Nat × Value)} {w : World} {ops : Array Oper} {rest : List Oper} {Q : Exit → Act → World → Prop} {K : Act → World → Prop}
theorem w_enter {f : FuncId} {fn : Func} {c : Code} {args : Array Value} {X : Ending → World → Prop} (n : Nat) (hf : P.funcs[f]? = some fn) (hn : fn.ntmps = n) (hb : fn.body = some c)
  (ha : Nat.ble args.size n = true) (h : RC none m [] P c (bodyPostM (Fw none) m P fn X) n (argl 0 args.toList) w) : CallsIn (Fw none) m P f args w X := by
 refine callsIn_of_wp_marks hf hb trivial ?_ rfl
 rw [hn, fr_args n args (Nat.le_of_ble_eq_true ha)]
 exact h.out
theorem w_seq {x y : Code} (h : RC ro m ds P x (Exit.then (y.wpIn (Fw ro) m P Q) Q) n l w) : RC ro m ds P (Code.seq x y) Q n l w := ⟨wpIn_seq h.out⟩
theorem w_block {id : Nat} {c : Code} (h : RC ro m ds P c (Exit.inBlock id Q) n l w) : RC ro m ds P (Code.block id c) Q n l w := ⟨wpIn_block h.out⟩
theorem w_skip (h : WX (Wd ds Q) .normal n l w) : RC ro m ds P .skip Q n l w := ⟨wpIn_skip h.out⟩
theorem w_ret (h : WX (Wd ds Q) .ret n l w) : RC ro m ds P .ret Q n l w := ⟨wpIn_ret h.out⟩
theorem w_exit {id : Nat} (h : WX (Wd ds Q) (.exit id) n l w) : RC ro m ds P (.exit id) Q n l w := ⟨wpIn_exit h.out⟩
theorem ev_wd (x : Operand) : (wd (fr n l) ds).eval x = evl n l x := (show (fr n l).eval x = _ from by rw [fr_eval])
theorem w_condT {c : Operand} {x y : Code} (hc : evl n l c = .bool true) (h : RC ro m ds P x Q n l w) : RC ro m ds P (Code.cond c x y) Q n l w := ⟨wpIn_cond_true ((ev_wd c).trans hc) h.out⟩
theorem w_condF {c : Operand} {x y : Code} (hc : evl n l c = .bool false) (h : RC ro m ds P y Q n l w) : RC ro m ds P (Code.cond c x y) Q n l w := ⟨wpIn_cond_false ((ev_wd c).trans hc) h.out⟩
theorem w_reg {id : Nat} {ol : List Oper} (h : WL P ol.toArray (Wd ds Q) ol n l w) (hn : ol.all notDefer = true := by rfl) : RC ro m ds P (Code.region id ol.toArray false) Q n l w := ⟨wpIn_region_lit (list_in ol _ _ hn h.out)⟩
theorem w_regL {id : Nat} {ol : List Oper} (h : RL ro m ds P ol.toArray Q ol n l w) : RC ro m ds P (Code.region id ol.toArray false) Q n l w := ⟨wpIn_region_lit h.out⟩
theorem xn_then {y : Code} {Q' : Exit → Act → World → Prop} (h : RC ro m ds P y Q n l w) : WX (Wd ds (Exit.then (y.wpIn (Fw ro) m P Q) Q')) .normal n l w := ⟨h.out⟩
theorem xn_blk {id : Nat} (h : WX (Wd ds Q) .normal n l w) : WX (Wd ds (Exit.inBlock id Q)) .normal n l w := ⟨h.out⟩
theorem xx_then {next : Act → World → Prop} {id : Nat} (h : WX (Wd ds Q) (.exit id) n l w) : WX (Wd ds (Exit.then next Q)) (.exit id) n l w := ⟨h.out⟩
theorem xx_blk {id : Nat} (h : WX (Wd ds Q) .normal n l w) : WX (Wd ds (Exit.inBlock id Q)) (.exit id) n l w := ⟨by
 show Exit.inBlock id Q (.exit id) _ _
 simp only [Exit.inBlock, if_true]; exact h.out⟩
theorem xr_then {next : Act → World → Prop} (h : WX (Wd ds Q) .ret n l w) : WX (Wd ds (Exit.then next Q)) .ret n l w := ⟨h.out⟩
theorem xr_blk {id : Nat} (h : WX (Wd ds Q) .ret n l w) : WX (Wd ds (Exit.inBlock id Q)) .ret n l w := ⟨h.out⟩
theorem w_loop {c : Code} (I : Nat → List (Nat × Value) → World → Prop) (k : Nat) (h0 : I k l w)
  (round : ∀ k l w, I k l w → RC ro m ds P c (Exit.then (fun a w' => ∃ k' l', k' < k ∧ a = wd (fr n l') ds ∧ I k' l' w') Q) n l w) : RC ro m ds P (Code.loop c) Q n l w := by
 refine ⟨?_⟩
 have key : ∀ k : Nat, ∀ l w, I k l w → (Code.loop c).wpIn (Fw ro) m P Q (wd (fr n l) ds) w := by
  intro m0 l0 w0 hI0
  refine wpIn_loop (fun a w => ∃ k l, a = wd (fr n l) ds ∧ I k l w) (fun a w => Classical.epsilon (least (fun k => ∃ l, a = wd (fr n l) ds ∧ I k l w))) ⟨m0, l0, rfl, hI0⟩ ?_
  rintro a w ⟨k, l, rfl, hI⟩
  obtain ⟨l2, e2, hI2⟩ := (least_ok (p := fun k => ∃ l', wd (fr n l) ds = wd (fr n l') ds ∧ I k l' w) ⟨k, l, rfl, hI⟩).1
  rw [e2]
  refine Go.wpIn_mono (round _ l2 w hI2).out ?_
  intro e a' w' hq
  cases e with
  | normal =>
   obtain ⟨m', l', hlt, rfl, hI'⟩ := hq
   refine ⟨⟨m', l', rfl, hI'⟩, Nat.lt_of_le_of_lt ((least_ok (p := fun k => ∃ l'', wd (fr n l') ds = wd (fr n l'') ds ∧ I k l'' w') ⟨m', l', rfl, hI'⟩).2 m' ⟨l', rfl, hI'⟩) ?_⟩
   rw [← e2]; exact hlt
  | _ => exact hq
 exact key k l w h0
theorem xn_loop {I : Nat → List (Nat × Value) → World → Prop} {k : Nat} (k' : Nat) (hlt : k' < k) (h : I k' l w) : WX (Wd ds (Exit.then (fun a w' => ∃ k' l', k' < k ∧ a = wd (fr n l') ds ∧ I k' l' w') Q)) .normal n l w := ⟨⟨k', l, hlt, rfl, h⟩⟩
theorem rl_o (hg : wnt n l ops o = true) (h : WO P o n l w (fun a w' => ∃ l', a = fr n l' ∧ RL ro m ds P ops Q rest n l' w') (Wd ds Q)) (hn : notDefer o = true := by rfl) : RL ro m ds P ops Q (o :: rest) n l w := by
 refine ⟨?_⟩
 unfold wpListIn
 have hw : Region.wanted o (yielded ops (wd (fr n l) ds).tmps) = true := (fr_wanted n l ops o).trans hg
 rw [if_pos hw]
 exact op_in hn (fun a w' ⟨l', e, h'⟩ => e ▸ h'.out) h.out
theorem rl_nil (h : WX (Wd ds Q) .normal n l w) : RL ro m ds P ops Q [] n l w := ⟨h.out⟩
theorem rl_yield (x : Operand) (xs : List Operand) (ats : Array TypeId) (args : List Value) (lp : Nat) {X : Ending → World → Prop} (ho : o.op = .call { callee := .value x, args := xs.toArray, argTypes := ats }) (hx : evl n l x = .func (.yield lp) #[] #[]) (hxs : xs.map (evl n l) = args) (hg : wnt n l ops o = true)
  (hY : YieldAt (Fw none) (m - 1) P lp args.toArray w X) (hk : ∀ e w', X e w' → ∃ v, e = .returned v ∧ RL none m ds P ops Q rest n (ext l o.dst v) w') : RL none m ds P ops Q (o :: rest) n l w := by
 refine ⟨?_⟩
 unfold wpListIn
 have hw : Region.wanted o (yielded ops (wd (fr n l) ds).tmps) = true := (fr_wanted n l ops o).trans hg
 rw [if_pos hw]
 refine ⟨fun _ _ => trivial, ?_⟩
 obtain ⟨fn, tmps, assign, body, hy, hR⟩ := hY
 have he : (wd (fr n l) ds).eval = evl n l := funext fun x => ev_wd x
 rw [he]
 have hr : ((Oper.semAt (Fw none).round (evl n l) o).run P w) = .ok (.round lp fn tmps assign body) w := by
  show (execOp (evl n l) o).run P w = _
  unfold execOp
  simp only [ho, resolve, invoke, Sem.run_bind, List.map_toArray, hx, hxs]
  simp [go_sem, hy]
 rw [hr]
 refine ⟨(fun e => by cases e), hR.mono fun e w' q => ?_⟩
 obtain ⟨v, rfl, h⟩ := hk e w' q
 have := h.out
 rw [← fr_put, wd_put] at this
 exact this
theorem w_ret1 {fn : Func} {X : Ending → World → Prop} (x : ResultVar) (v : Value) (hf : fn.results = #[x]) (h : resv n l P w v x) (hR : X (.returned v) w) : WX (Wd [] (bodyPostM (Fw none) m P fn X)) .ret n l w := ⟨by
 obtain ⟨_, v', h1, h2⟩ := c_ret1 (R := X) x v hf h hR
 exact ⟨v', h1, h2⟩⟩
end
end R
end G
end Go.Proofs.Ythfemlhmnjfjiaa
/-
 A range over a function: the law, where nothing is frozen on the way.
-/
namespace Go.Proofs.Ythfemlhmnjfjiaa
open Go.RowKit
namespace G
namespace R
def OwnF {β : Type} (B : Nat) (I : β → World → Prop) : Prop :=
 ∀ s W W' row, I s W → W.grownBy W' row → (∀ a, W'.frozen? a = W.frozen? a) → (∀ r, row = some r → B ≤ r ∧ ∃ o : Obj, W.heap[r]? = some o ∧ o.isCells = false) → I s W'
def AbF {β : Type} (J : β → World → Prop) : Prop := ∀ s W W', J s W → Mo W W' → J s W'
theorem mo_grown {W W' : World} (m : Mo W W') : W.grownBy W' none := ⟨m.1.os, m.1.tape, m.1.output, m.1.size, fun k hk _ => m.1.block k hk⟩
theorem OwnF.mo {β : Type} {B : Nat} {I : β → World → Prop} (h : OwnF B I) {s : β} {W W' : World} (hs : I s W) (m : Mo W W') : I s W' := h s W W' none hs (mo_grown m) m.2 (fun _ e => by cases e)
theorem frozen_not {w : World} {o : Obj} {a : Addr} (h : w.heap[a.block]? = some o) (ho : o.isCells = false) : w.frozen? a = false := by
 unfold World.frozen?
 rw [h]
 cases o <;> first | rfl | cases ho
theorem frozen_put {W : World} {l : Nat} {o o' : Obj} (hl : W.heap[l]? = some o) (ho : o.isCells = false) (ho' : o'.isCells = false) (a : Addr) : (W.putObj l o').frozen? a = W.frozen? a := by
 by_cases e : a.block = l
 ·have h1 : (W.putObj l o').heap[a.block]? = some o' := by rw [e]; exact World.putObj_heap_same (Array.getElem?_eq_some_iff.1 hl).1
  have h2 : W.heap[a.block]? = some o := by rw [e]; exact hl
  rw [frozen_not h1 ho', frozen_not h2 ho]
 ·exact World.frozen?_of_block (World.putObj_heap_other (fun q => e q))
theorem OwnF.putObj {β : Type} {B : Nat} {I : β → World → Prop} (h : OwnF B I) {s : β} {W : World} {l : Nat} {o : Obj} (o' : Obj) (hs : I s W) (hB : B ≤ l) (hl : W.heap[l]? = some o) (ho : o.isCells = false) (ho' : o'.isCells = false) : I s (W.putObj l o') :=
 h s W _ (some l) hs (grownBy_putObj' W l o') (frozen_put hl ho ho') (fun r e => by cases e; exact ⟨hB, o, hl, ho⟩)
theorem frozen_alloc {W : World} {o : Obj} (ho : o.isCells = false) (a : Addr) : (W.alloc o).frozen? a = W.frozen? a := by
 by_cases e : a.block = W.heap.size
 ·have h1 : (W.alloc o).heap[a.block]? = some o := by rw [e]; exact World.alloc_heap_new W o
  rw [frozen_not h1 ho]
  unfold World.frozen?
  rw [Array.getElem?_eq_none (by omega)]
 ·refine World.frozen?_of_block ?_
  rcases Nat.lt_or_ge a.block W.heap.size with h | h
  ·exact Below.heap_alloc W o _ h
  ·rw [Array.getElem?_eq_none (by simp; omega), Array.getElem?_eq_none (by omega)]
theorem Mo.allocO {W : World} {o : Obj} (ho : o.isCells = false) : Mo W (W.alloc o) := ⟨(Below.refl _ W).alloc (Nat.le_refl _) _, frozen_alloc ho⟩
def SeqF {α : Type} (m : Nat) (P : Program) (g : Nat) (ra lb : Array Value) (encs : α → Array Value) (Kp : World → World → Prop) (S Sp : List α → Prop) (N : Nat) (w : World) : Prop :=
 ∀ (l : Nat) (J Jx : List α → World → Prop) (W : World), Mo w W → AbF J → AbF Jx →
  (∀ pre x W1, J pre W1 → pre.length < N → YieldAt (Fw none) (m - 1) P l (encs x) W1 fun e W' =>
   (e = .returned (.bool true) ∧ J (pre ++ [x]) W' ∧ Kp W1 W') ∨ (e = .returned (.bool false) ∧ Jx (pre ++ [x]) W')) →
  J [] W →
  CallsIn (Fw none) m P g (ra ++ #[.func (.yield l) #[] #[]] ++ lb) W fun e W' => (∃ v, e = .returned v) ∧ ((∃ xs, S xs ∧ J xs W') ∨ (∃ pre, Sp pre ∧ Jx pre W'))
section
variable {m : Nat} {ds : List Deferred} {P : Program} {n : Nat} {l : List (Nat × Value)} {w : World} {Q : Exit → Act → World → Prop}
theorem w_rf {α : Type} {g : Operand} {ps : Array Tmp} {assign body : Code} (gf : Nat) (ra lb : Array Value) (hg : evl n l g = .func (.func gf) ra lb) (eg : ∀ args w, (callFunc gf args).run P w = .ok (.enter gf args) w)
  (encs : α → Array Value) (Kp : World → World → Prop) (S Sp : List α → Prop) (N : Nat) (hseq : SeqF (m - 1) P gf ra lb encs Kp S Sp N w)
  (hKt : ∀ {A B C : World}, Kp A B → Kp B C → Kp A C) (hKb : ∀ (W : World) (l : Nat) (o o' : Obj), w.heap.size ≤ l → W.heap[l]? = some o → o.isCells = false → o'.isCells = false → Kp W (W.putObj l o')) (hps : ∀ x, (encs x).size = ps.size)
  (I : List α → World → Prop) (Ix : Code → List α → World → Prop) (hI : OwnF w.heap.size I) (hIx : ∀ c, OwnF w.heap.size (Ix c)) (h0 : I [] w) (la lx : α → List (Nat × Value))
  (hfr : ∀ x, ({ tmps := (ps.zip (encs x)).foldl (fun t (p, v) => t.setIfInBounds p v) (fr n l).tmps, defers := [] } : Act) = fr n (la x))
  (hassign : ∀ (lp : Nat) (x : α) (W : World) (K : Act → World → Prop), WX (Wd [] (Exit.then K (fun _ _ _ => False))) .normal n (lx x) W → RC (some lp) (m - 1 - 1) [] P assign (Exit.then K (fun _ _ _ => False)) n (la x) W)
  (hbody : ∀ (lp : Nat) (pre : List α) (x : α) (W : World), I pre W → pre.length < N → RC (some lp) (m - 1 - 1) [] P body (ownPostG w.heap.size Kp I Ix (pre ++ [x]) W) n (lx x) W)
  (hdone : ∀ (D : Nat) (xs : List α) (W : World), w.heap.size ≤ D → S xs → I xs W → W.heap[D]? = some (.deferred (some [])) → WX (Wd ({ target := .collected D, args := #[] } :: ds) Q) .normal n l W)
  (hstop : ∀ (D : Nat) (c : Code) (pre : List α) (W : World), w.heap.size ≤ D → Sp pre → Ix c pre W → W.heap[D]? = some (.deferred (some [])) → RC none m ({ target := .collected D, args := #[] } :: ds) P c Q n l W) :
  RC none m ds P (Code.rangeFunc g ps assign body) Q n l w := by
 refine ⟨wpIn_rangeFunc ?_⟩
 intro fn hfn
 have hro : (Fw none).round = none := rfl
 rw [hro]
 have hg' : (wd (fr n l) ds).eval g = .func (.func gf) ra lb := (ev_wd g).trans hg
 have htm : (wd (fr n l) ds).tmps = (fr n l).tmps := rfl
 obtain ⟨rec, hrec⟩ : ∃ rec : LoopState → Option Code → Loop, rec = fun st pe => { state := st, pending := pe, fn, tmps := (fr n l).tmps, params := ps, assign, body, defers := w.heap.size } := ⟨_, rfl⟩
 obtain ⟨W1, hW1⟩ : ∃ W1, (w.alloc (.deferred (some []))).alloc (.loop (rec .ready none)) = W1 := ⟨_, rfl⟩
 have hm1 : Mo w W1 := by rw [← hW1]; exact (Mo.allocO rfl).trans (Mo.allocO rfl)
 have hL1 : W1.heap[w.heap.size + 1]? = some (.loop (rec .ready none)) := by
  rw [← hW1]; have := World.alloc_heap_new (w.alloc (.deferred (some []))) (.loop (rec .ready none)); rwa [World.size_alloc] at this
 have hK1 : W1.heap[w.heap.size]? = some (.deferred (some [])) := by
  rw [← hW1]; exact (Below.heap_alloc _ _ _ (by simp)).trans (World.alloc_heap_new w _)
 have hI1 : I [] W1 := hI.mo h0 hm1
 refine ⟨w.heap.size + 1, [{ target := .collected w.heap.size, args := #[] }], W1, { target := .fn (.func gf) lb, args := ra ++ #[.func (.yield (w.heap.size + 1)) #[] #[]] }, W1, gf,
  ra ++ #[.func (.yield (w.heap.size + 1)) #[] #[]] ++ lb, W1, ?_, ?_, ?_, ?_, (fun e => by cases e), ?_⟩
 ·rw [← hW1, hrec]; exact run_enterLoop_outer _ _ _ _ _
 ·simp only [resolve, hg']
  simp [go_sem]
 ·intro f' hf'; trivial
 ·simp [invoke, go_sem, eg]
 ·refine (hseq (w.heap.size + 1)
   (fun pre W => I pre W ∧ W.heap[w.heap.size + 1]? = some (.loop (rec .ready none)) ∧ W.heap[w.heap.size]? = some (.deferred (some [])))
   (fun pre W => ∃ c, Ix c pre W ∧ W.heap[w.heap.size + 1]? = some (.loop (rec .done (some c))) ∧ W.heap[w.heap.size]? = some (.deferred (some [])))
   W1 hm1
   (fun s A B hs mo => ⟨hI.mo hs.1 mo, (mo.1.block _ (Array.getElem?_eq_some_iff.1 hs.2.1).1).trans hs.2.1, (mo.1.block _ (Array.getElem?_eq_some_iff.1 hs.2.2).1).trans hs.2.2⟩)
   (fun s A B hs mo => by
    obtain ⟨c, hc, hl, hk⟩ := hs
    exact ⟨c, (hIx c).mo hc mo, (mo.1.block _ (Array.getElem?_eq_some_iff.1 hl).1).trans hl, (mo.1.block _ (Array.getElem?_eq_some_iff.1 hk).1).trans hk⟩)
   ?_ ⟨hI1, hL1, hK1⟩).mono ?_
  ·rintro pre x W ⟨hi, hl, hk⟩ hlen
   have hlt : w.heap.size + 1 < W.heap.size := (Array.getElem?_eq_some_iff.1 hl).1
   have hy := run_yield (P := P) (args := encs x) hl (by rw [hrec]; exact hps x)
   rw [hrec] at hy
   have ha : ∀ K : Act → World → Prop, K (fr n (lx x)) W → assign.wpIn ((Fw none).inRound (w.heap.size + 1)) (m - 1 - 1) P (Exit.then K (fun _ _ _ => False)) { tmps := (ps.zip (encs x)).foldl (fun t (p, v) => t.setIfInBounds p v) (fr n l).tmps, defers := [] } W := fun K hK => by
    rw [hfr x]
    exact (hassign (w.heap.size + 1) x W K ⟨hK⟩).out
   refine ⟨fn, _, assign, body, hy, roundIn_of_wpIn hfn (ha _ ⟨_, run_beginRound hl (by rw [hrec]), ?_⟩)⟩
   have hl2 : (W.putObj (w.heap.size + 1) (.loop { rec .ready none with state := .busy })).heap[w.heap.size + 1]? = some (.loop { rec .ready none with state := .busy }) := World.putObj_heap_same hlt
   have hk2 : (W.putObj (w.heap.size + 1) (.loop { rec .ready none with state := .busy })).heap[w.heap.size]? = some (.deferred (some [])) := (World.putObj_heap_other (by omega)).trans hk
   have hw2 : Kp W (W.putObj (w.heap.size + 1) (.loop { rec .ready none with state := .busy })) := hKb _ _ _ _ (by omega) hl rfl rfl
   refine Go.wpIn_mono (hbody _ pre x _ (hI.putObj _ hi (by omega) hl rfl rfl) hlen).out ?_
   have fin : ∀ (jump : Option Code) (W3 : World), KeepsFrom w.heap.size (W.putObj (w.heap.size + 1) (.loop { rec .ready none with state := .busy })) W3 →
     (Instr.endRound (w.heap.size + 1) jump).run P W3 = .ok (.bool jump.isNone) (W3.putObj (w.heap.size + 1) (.loop (rec (if jump.isNone then .ready else .done) jump))) ∧
     W3.heap[w.heap.size + 1]? = some (.loop { rec .ready none with state := .busy }) ∧
     (W3.putObj (w.heap.size + 1) (.loop (rec (if jump.isNone then .ready else .done) jump))).heap[w.heap.size + 1]? = some (.loop (rec (if jump.isNone then .ready else .done) jump)) ∧
     (W3.putObj (w.heap.size + 1) (.loop (rec (if jump.isNone then .ready else .done) jump))).heap[w.heap.size]? = some (.deferred (some [])) := fun jump W3 hk3 => by
    have hl3 := hk3.same _ _ (by omega) hl2 rfl
    have := run_endRound (P := P) jump hl3
    rw [hrec] at this ⊢
    exact ⟨this, by rw [hrec] at hl3; exact hl3, World.putObj_heap_same (Array.getElem?_eq_some_iff.1 hl3).1, (World.putObj_heap_other (by omega)).trans (hk3.same _ _ (Nat.le_refl _) hk2 rfl)⟩
   rintro e a3 W3 hp
   cases e with
   | normal =>
    obtain ⟨hk3, hkp3, hi3⟩ := hp
    obtain ⟨hr, hl3, hl4, hk4⟩ := fin none W3 hk3
    exact ⟨_, _, hr, .inl ⟨rfl, ⟨hI.putObj _ hi3 (by omega) hl3 rfl rfl, hl4, hk4⟩, hKt (hKt hw2 hkp3) (hKb _ _ _ _ (by omega) hl3 rfl rfl)⟩⟩
   | ret =>
    obtain ⟨hk3, hi3⟩ := hp
    obtain ⟨hr, hl3, hl4, hk4⟩ := fin (some .ret) W3 hk3
    exact ⟨_, _, hr, .inr ⟨rfl, .ret, (hIx _).putObj _ hi3 (by omega) hl3 rfl rfl, hl4, hk4⟩⟩
   | exit id =>
    obtain ⟨hk3, hi3⟩ := hp
    obtain ⟨hr, hl3, hl4, hk4⟩ := fin (some (.exit id)) W3 hk3
    exact ⟨_, _, hr, .inr ⟨rfl, .exit id, (hIx _).putObj _ hi3 (by omega) hl3 rfl rfl, hl4, hk4⟩⟩
   | goto t =>
    obtain ⟨hk3, hi3⟩ := hp
    obtain ⟨hr, hl3, hl4, hk4⟩ := fin (some (.goto t)) W3 hk3
    exact ⟨_, _, hr, .inr ⟨rfl, .goto t, (hIx _).putObj _ hi3 (by omega) hl3 rfl rfl, hl4, hk4⟩⟩
   | panic ch => exact hp.elim
   | outgrown => exact hp.elim
  ·rintro e W2 ⟨⟨v, rfl⟩, (⟨xs, hS, hi, hl, hk⟩ | ⟨pre, hSp, c, hi, hl, hk⟩)⟩
   ·exact ⟨none, _, by have := run_endLoop (P := P) hl (by rw [hrec]; simp); rw [hrec] at this; exact this, (hdone _ xs _ (Nat.le_refl _) hS (hI.putObj _ hi (by omega) hl rfl rfl) ((World.putObj_heap_other (by omega)).trans hk)).out⟩
   ·exact ⟨some c, _, by have := run_endLoop (P := P) hl (by rw [hrec]; simp); rw [hrec] at this; exact this, (hstop _ c pre _ (Nat.le_refl _) hSp ((hIx c).putObj _ hi (by omega) hl rfl rfl) ((World.putObj_heap_other (by omega)).trans hk)).out⟩
end
end R
end G
end Go.Proofs.Ythfemlhmnjfjiaa
