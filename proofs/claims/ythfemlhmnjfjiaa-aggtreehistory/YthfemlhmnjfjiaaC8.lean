/-
  A part of the proof.
-/
import Derived.Test.YthfemlhmnjfjiaaC7
/-
 The tree's Insert.
-/
namespace Go.Proofs.Ythfemlhmnjfjiaa
open Go.RowKit
namespace G
section
variable {D : Nat → Prop} {w : World} {t : Nat} {mb : Hd} {R : Mp} {root : Option Nat} {lk : Int}
theorem neN {a b : Nat} {r : Bool} (h : decide (a = b) = r) (x y : Operand) (w : World) : (do eqGuard .neq 3 x y (.int .i64 (a : Int)) (.int .i64 (b : Int)); binOp .neq 3 (.int .i64 (a : Int)) (.int .i64 (b : Int))).run Try.prog w = .ok (.bool !r) w := by
 have e : (do eqGuard .neq 3 x y (.int .i64 (a : Int)) (.int .i64 (b : Int)); binOp .neq 3 (.int .i64 (a : Int)) (.int .i64 (b : Int))).run Try.prog w = .ok (.bool ((a : Int) != (b : Int))) w := by kernel_rfl
 rw [e, ← h]
 congr 2
 by_cases c : a = b
 ·subst c; simp
 ·have : ((a : Int) == (b : Int)) = false := beq_eq_false_iff_ne.2 (fun q => c (Int.ofNat.inj q))
  simp [bne, this, c]
theorem len29 (ρ : Operand → Value) (x : Operand) (p : Option Addr) (m c : Nat) (hx : ρ x = .slice p m c) (dst : Option Tmp) (type : TypeId) (pos : String) (after : Array Edge) (guard : Option (Nat × Bool)) (w : World) : (execOp ρ { dst, op := .call { callee := .builtin .len, args := #[x], argTypes := #[29] }, type, pos, after, guard }).run Try.prog w = .ok (.value (.int .i64 (m : Int))) w := by
 simp [go_sem, hx]
def SVv (w : World) (p : Option Addr) (L : List V10) : Prop := ∀ k x, L[k]? = some x → ∃ b off, p = some ⟨b, off, none⟩ ∧ b < w.heap.size ∧ w.rangeAt b (off + k * 10) x.cells
theorem SVv.mo {w' : World} {p : Option Addr} {L : List V10} (h : SVv w p L) (m : Mo w w') : SVv w' p L := fun k x e => by
 obtain ⟨b, off, h1, h2, h3⟩ := h k x e
 exact ⟨b, off, h1, Nat.lt_of_lt_of_le h2 m.size, fun j v hv => (m.cell b _ h2).trans (h3 j v hv)⟩
theorem clv_vs {p : Option Addr} {c : Nat} {L : List V10} (hr : SVv w p L) (hn : L.length ≤ 1000000) : Calls Try.prog 22 #[.slice p L.length c] w fun e w' => ∃ p' c', e = .returned (.slice p' L.length c') ∧ Rw w' 10 (.slice p' L.length c') (L.map V10.cells) ∧ (∀ b, ob (.slice p' L.length c') = some b → w.heap.size ≤ b) ∧ Mo w w' := by
 have h := clv_n (w := w) (p := p) (c := c) (L := L.map V10.cells) (fun x hx => by obtain ⟨y, _, rfl⟩ := List.mem_map.1 hx; rfl) (fun k cs hk => by
  rw [List.getElem?_map] at hk
  obtain ⟨x, hx, rfl⟩ := Option.map_eq_some_iff.1 hk
  exact hr k x hx) (by rw [List.length_map]; exact hn)
 rw [List.length_map] at h
 exact h
theorem insert_v {tr : T} {at0 id : Int} {p : Option Addr} {c : Nat} {vs : List V10} (h : FT D w t mb tr lk) (q7 : decide (vs.length = mb.sc.length) = false) : Calls Try.prog 9 #[pt t 0, .int .i64 at0, .int .i64 id, .slice p vs.length c] w fun e w' => e = .returned (.int .i64 1) ∧ Mo w w' := by
 obtain ⟨R, root, hS, hAp, hC, hR, hn⟩ := h.ts
 have hM := h.om
 obtain ⟨p9, cap9, hsl, _⟩ := hS.sc
 rw [List.length_map] at hsl
 refine w_enter 57 Try.func9 Try.ntmps9 rfl rfl ?_
 have M : Mo w w := Mo.refl _
 refine w_seq (w_reg ?_)
 refine wl_m (.const (.int .i64 (0))) (.int .i64 (0)) ?_
 refine w_nil (xn_then (w_seq (w_block (w_seq (w_reg ?_)))))
 refine wl_m (.tmp 0) (pt t 0) ?_
 refine wl_call 30 [(.tmp 10)] _ [pt t 0] (.bool true) rfl rfl (fun _ _ => by kernel_rfl) (made_n hS) rfl ?_
 intro w1 hq
 replace hS := hS.mo hq
 replace hM := hM.mo hq
 replace M := M.trans hq
 clear hq
 refine wl_un (fun v => Op.unary .not v) (.tmp 11) (.bool true) (.bool false) (fun _ => rfl) rfl (by kernel_rfl) rfl ?_
 refine wl_m (.tmp 12) (.bool false) ?_
 refine w_nil (xn_then (w_condF rfl (w_seq (w_reg ?_))))
 refine wl_m (.tmp 3) (.slice p vs.length c) ?_
 refine wl_val (.int .i64 ((vs.length : Nat) : Int)) (len29 _ _ _ _ _ (by exact rfl) _ _ _ _ _ _) rfl ?_
 refine wl_m (.tmp 0) (pt t 0) ?_
 refine wl_nc (.tmp 16) t 0 rfl rfl rfl ?_
 refine wl_f 68 0 (.tmp 17) (pt t 0) (pt t 0) ?_
 refine wl_l 22 (.tmp 18) (pt t 0) (mb.h) (run_one hS.tr 22 0 rfl Try.underlying22 rfl) ?_
 refine wl_val (.int .i64 ((mb.sc.length : Nat) : Int)) (len22 _ _ _ _ _ (Eq.trans (b := mb.h) (by exact rfl) hsl) _ _ _ _ _ _) rfl ?_
 refine wl_b .neq 3 (.tmp 15) (.tmp 20) (.int .i64 ((vs.length : Nat) : Int)) (.int .i64 ((mb.sc.length : Nat) : Int)) (.bool true) (neN q7 _ _ _) ?_
 refine wl_m (.tmp 21) (.bool true) ?_
 refine w_nil (xn_then (w_condT rfl (w_seq (w_reg ?_))))
 refine wl_m (.const (.int .i64 (1))) (.int .i64 (1)) ?_
 refine w_nil (xn_then (w_ret (xr_blk (xr_then ?_))))
 exact w_ret1 _ _ rfl rfl ⟨rfl, M⟩
theorem insert_a {tr : T} {at0 id : Int} {p : Option Addr} {c : Nat} {vs : List V10} (h : FT D w t mb tr lk) (q7 : decide (vs.length = mb.sc.length) = true) (q0 : decide (id < 1) = true) : Calls Try.prog 9 #[pt t 0, .int .i64 at0, .int .i64 id, .slice p vs.length c] w fun e w' => e = .returned (.int .i64 1) ∧ Mo w w' := by
 obtain ⟨R, root, hS, hAp, hC, hR, hn⟩ := h.ts
 have hM := h.om
 obtain ⟨p9, cap9, hsl, _⟩ := hS.sc
 rw [List.length_map] at hsl
 refine w_enter 57 Try.func9 Try.ntmps9 rfl rfl ?_
 have M : Mo w w := Mo.refl _
 refine w_seq (w_reg ?_)
 refine wl_m (.const (.int .i64 (0))) (.int .i64 (0)) ?_
 refine w_nil (xn_then (w_seq (w_block (w_seq (w_reg ?_)))))
 refine wl_m (.tmp 0) (pt t 0) ?_
 refine wl_call 30 [(.tmp 10)] _ [pt t 0] (.bool true) rfl rfl (fun _ _ => by kernel_rfl) (made_n hS) rfl ?_
 intro w1 hq
 replace hS := hS.mo hq
 replace hM := hM.mo hq
 replace M := M.trans hq
 clear hq
 refine wl_un (fun v => Op.unary .not v) (.tmp 11) (.bool true) (.bool false) (fun _ => rfl) rfl (by kernel_rfl) rfl ?_
 refine wl_m (.tmp 12) (.bool false) ?_
 refine w_nil (xn_then (w_condF rfl (w_seq (w_reg ?_))))
 refine wl_m (.tmp 3) (.slice p vs.length c) ?_
 refine wl_val (.int .i64 ((vs.length : Nat) : Int)) (len29 _ _ _ _ _ (by exact rfl) _ _ _ _ _ _) rfl ?_
 refine wl_m (.tmp 0) (pt t 0) ?_
 refine wl_nc (.tmp 16) t 0 rfl rfl rfl ?_
 refine wl_f 68 0 (.tmp 17) (pt t 0) (pt t 0) ?_
 refine wl_l 22 (.tmp 18) (pt t 0) (mb.h) (run_one hS.tr 22 0 rfl Try.underlying22 rfl) ?_
 refine wl_val (.int .i64 ((mb.sc.length : Nat) : Int)) (len22 _ _ _ _ _ (Eq.trans (b := mb.h) (by exact rfl) hsl) _ _ _ _ _ _) rfl ?_
 refine wl_b .neq 3 (.tmp 15) (.tmp 20) (.int .i64 ((vs.length : Nat) : Int)) (.int .i64 ((mb.sc.length : Nat) : Int)) (.bool false) (neN q7 _ _ _) ?_
 refine wl_m (.tmp 21) (.bool false) ?_
 refine w_nil (xn_then (w_condF rfl (w_seq (w_reg ?_))))
 refine wl_m (.tmp 2) (.int .i64 (id)) ?_
 refine wl_b .lss 2 (.tmp 23) (.const (.int .i64 (1))) (.int .i64 (id)) (.int .i64 (1)) (.bool true) (ltL q0 _ _ _) ?_
 refine wl_m (.tmp 24) (.bool true) ?_
 refine wl_skip rfl (wl_skip rfl ?_)
 refine wl_pick (.tmp 25) (.const (.bool true)) (.tmp 27) true (.bool true) (fun _ => rfl) rfl rfl rfl ?_
 refine wl_m (.tmp 28) (.bool true) ?_
 refine w_nil (xn_then (w_condT rfl (w_seq (w_reg ?_))))
 refine wl_m (.const (.int .i64 (1))) (.int .i64 (1)) ?_
 refine w_nil (xn_then (w_ret (xr_blk (xr_then ?_))))
 exact w_ret1 _ _ rfl rfl ⟨rfl, M⟩
theorem insert_b {tr : T} {at0 id : Int} {p : Option Addr} {c : Nat} {vs : List V10} (h : FT D w t mb tr lk) (q7 : decide (vs.length = mb.sc.length) = true) (q0 : decide (id < 1) = false) (q1 : decide (9007199254740992 < id) = true) : Calls Try.prog 9 #[pt t 0, .int .i64 at0, .int .i64 id, .slice p vs.length c] w fun e w' => e = .returned (.int .i64 1) ∧ Mo w w' := by
 obtain ⟨R, root, hS, hAp, hC, hR, hn⟩ := h.ts
 have hM := h.om
 obtain ⟨p9, cap9, hsl, _⟩ := hS.sc
 rw [List.length_map] at hsl
 refine w_enter 57 Try.func9 Try.ntmps9 rfl rfl ?_
 have M : Mo w w := Mo.refl _
 refine w_seq (w_reg ?_)
 refine wl_m (.const (.int .i64 (0))) (.int .i64 (0)) ?_
 refine w_nil (xn_then (w_seq (w_block (w_seq (w_reg ?_)))))
 refine wl_m (.tmp 0) (pt t 0) ?_
 refine wl_call 30 [(.tmp 10)] _ [pt t 0] (.bool true) rfl rfl (fun _ _ => by kernel_rfl) (made_n hS) rfl ?_
 intro w1 hq
 replace hS := hS.mo hq
 replace hM := hM.mo hq
 replace M := M.trans hq
 clear hq
 refine wl_un (fun v => Op.unary .not v) (.tmp 11) (.bool true) (.bool false) (fun _ => rfl) rfl (by kernel_rfl) rfl ?_
 refine wl_m (.tmp 12) (.bool false) ?_
 refine w_nil (xn_then (w_condF rfl (w_seq (w_reg ?_))))
 refine wl_m (.tmp 3) (.slice p vs.length c) ?_
 refine wl_val (.int .i64 ((vs.length : Nat) : Int)) (len29 _ _ _ _ _ (by exact rfl) _ _ _ _ _ _) rfl ?_
 refine wl_m (.tmp 0) (pt t 0) ?_
 refine wl_nc (.tmp 16) t 0 rfl rfl rfl ?_
 refine wl_f 68 0 (.tmp 17) (pt t 0) (pt t 0) ?_
 refine wl_l 22 (.tmp 18) (pt t 0) (mb.h) (run_one hS.tr 22 0 rfl Try.underlying22 rfl) ?_
 refine wl_val (.int .i64 ((mb.sc.length : Nat) : Int)) (len22 _ _ _ _ _ (Eq.trans (b := mb.h) (by exact rfl) hsl) _ _ _ _ _ _) rfl ?_
 refine wl_b .neq 3 (.tmp 15) (.tmp 20) (.int .i64 ((vs.length : Nat) : Int)) (.int .i64 ((mb.sc.length : Nat) : Int)) (.bool false) (neN q7 _ _ _) ?_
 refine wl_m (.tmp 21) (.bool false) ?_
 refine w_nil (xn_then (w_condF rfl (w_seq (w_reg ?_))))
 refine wl_m (.tmp 2) (.int .i64 (id)) ?_
 refine wl_b .lss 2 (.tmp 23) (.const (.int .i64 (1))) (.int .i64 (id)) (.int .i64 (1)) (.bool false) (ltL q0 _ _ _) ?_
 refine wl_m (.tmp 24) (.bool false) ?_
 refine wl_m (.tmp 2) (.int .i64 (id)) ?_
 refine wl_b .gtr 2 (.tmp 26) (.const (.int .i64 (9007199254740992))) (.int .i64 (id)) (.int .i64 (9007199254740992)) (.bool true) (gtL q1 _ _ _) ?_
 refine wl_pick (.tmp 25) (.const (.bool true)) (.tmp 27) false (.bool true) (fun _ => rfl) rfl rfl rfl ?_
 refine wl_m (.tmp 28) (.bool true) ?_
 refine w_nil (xn_then (w_condT rfl (w_seq (w_reg ?_))))
 refine wl_m (.const (.int .i64 (1))) (.int .i64 (1)) ?_
 refine w_nil (xn_then (w_ret (xr_blk (xr_then ?_))))
 exact w_ret1 _ _ rfl rfl ⟨rfl, M⟩
theorem insert_c {tr : T} {at0 id : Int} {p : Option Addr} {c : Nat} {vs : List V10} (h : FT D w t mb tr lk) (hi : -9223372036854775808 ≤ id ∧ id ≤ 9223372036854775807) (q7 : decide (vs.length = mb.sc.length) = true) (q0 : decide (id < 1) = false) (q1 : decide (9007199254740992 < id) = false) (q2 : (adr tr.kv id).isSome = true) : Calls Try.prog 9 #[pt t 0, .int .i64 at0, .int .i64 id, .slice p vs.length c] w fun e w' => e = .returned (.int .i64 5) ∧ Mo w w' := by
 have hw : (Lit.int .i64 id).wf = true := WalkArith.wf_i64 ⟨hi.1, hi.2⟩
 obtain ⟨R, root, hS, hAp, hC, hR, hn⟩ := h.ts
 have hM := h.om
 obtain ⟨p9, cap9, hsl, _⟩ := hS.sc
 rw [List.length_map] at hsl
 refine w_enter 57 Try.func9 Try.ntmps9 rfl rfl ?_
 have M : Mo w w := Mo.refl _
 refine w_seq (w_reg ?_)
 refine wl_m (.const (.int .i64 (0))) (.int .i64 (0)) ?_
 refine w_nil (xn_then (w_seq (w_block (w_seq (w_reg ?_)))))
 refine wl_m (.tmp 0) (pt t 0) ?_
 refine wl_call 30 [(.tmp 10)] _ [pt t 0] (.bool true) rfl rfl (fun _ _ => by kernel_rfl) (made_n hS) rfl ?_
 intro w1 hq
 replace hS := hS.mo hq
 replace hM := hM.mo hq
 replace M := M.trans hq
 clear hq
 refine wl_un (fun v => Op.unary .not v) (.tmp 11) (.bool true) (.bool false) (fun _ => rfl) rfl (by kernel_rfl) rfl ?_
 refine wl_m (.tmp 12) (.bool false) ?_
 refine w_nil (xn_then (w_condF rfl (w_seq (w_reg ?_))))
 refine wl_m (.tmp 3) (.slice p vs.length c) ?_
 refine wl_val (.int .i64 ((vs.length : Nat) : Int)) (len29 _ _ _ _ _ (by exact rfl) _ _ _ _ _ _) rfl ?_
 refine wl_m (.tmp 0) (pt t 0) ?_
 refine wl_nc (.tmp 16) t 0 rfl rfl rfl ?_
 refine wl_f 68 0 (.tmp 17) (pt t 0) (pt t 0) ?_
 refine wl_l 22 (.tmp 18) (pt t 0) (mb.h) (run_one hS.tr 22 0 rfl Try.underlying22 rfl) ?_
 refine wl_val (.int .i64 ((mb.sc.length : Nat) : Int)) (len22 _ _ _ _ _ (Eq.trans (b := mb.h) (by exact rfl) hsl) _ _ _ _ _ _) rfl ?_
 refine wl_b .neq 3 (.tmp 15) (.tmp 20) (.int .i64 ((vs.length : Nat) : Int)) (.int .i64 ((mb.sc.length : Nat) : Int)) (.bool false) (neN q7 _ _ _) ?_
 refine wl_m (.tmp 21) (.bool false) ?_
 refine w_nil (xn_then (w_condF rfl (w_seq (w_reg ?_))))
 refine wl_m (.tmp 2) (.int .i64 (id)) ?_
 refine wl_b .lss 2 (.tmp 23) (.const (.int .i64 (1))) (.int .i64 (id)) (.int .i64 (1)) (.bool false) (ltL q0 _ _ _) ?_
 refine wl_m (.tmp 24) (.bool false) ?_
 refine wl_m (.tmp 2) (.int .i64 (id)) ?_
 refine wl_b .gtr 2 (.tmp 26) (.const (.int .i64 (9007199254740992))) (.int .i64 (id)) (.int .i64 (9007199254740992)) (.bool false) (gtL q1 _ _ _) ?_
 refine wl_pick (.tmp 25) (.const (.bool true)) (.tmp 27) false (.bool false) (fun _ => rfl) rfl rfl rfl ?_
 refine wl_m (.tmp 28) (.bool false) ?_
 refine w_nil (xn_then (w_condF rfl (w_seq (w_reg ?_))))
 refine wl_m (.tmp 0) (pt t 0) ?_
 refine wl_nc (.tmp 30) t 0 rfl rfl rfl ?_
 refine wl_f 68 2 (.tmp 31) (pt t 0) (pt t 2) ?_
 refine wl_l 66 (.tmp 32) (pt t 2) (.map (some mb.m)) (run_one hS.tr 66 2 rfl Try.underlying66 rfl) ?_
 refine wl_m (.tmp 2) (.int .i64 (id)) ?_
 refine wl_bin (fun x y => Instr.lookup 66 x y false) (.tmp 33) (.tmp 34) (.map (some mb.m)) (.int .i64 (id)) (pp (adr tr.kv id)) (fun _ => rfl) rfl rfl (hM.look hw) rfl ?_
 refine wl_b .neq 65 (.tmp 35) (.const (.pointer none)) (pp (adr tr.kv id)) (pp none) (.bool true) (nePb q2 _ _ _) ?_
 refine wl_m (.tmp 36) (.bool true) ?_
 refine w_nil (xn_then (w_condT rfl (w_seq (w_reg ?_))))
 refine wl_m (.const (.int .i64 (5))) (.int .i64 (5)) ?_
 refine w_nil (xn_then (w_ret (xr_blk (xr_then ?_))))
 exact w_ret1 _ _ rfl rfl ⟨rfl, M⟩
theorem insert_d {tr : T} {at0 id : Int} {p : Option Addr} {c : Nat} {vs : List V10} (h : FT D w t mb tr lk) (hi : -9223372036854775808 ≤ id ∧ id ≤ 9223372036854775807) (q7 : decide (vs.length = mb.sc.length) = true) (q0 : decide (id < 1) = false) (q1 : decide (9007199254740992 < id) = false) (q2 : (adr tr.kv id).isSome = false) (q3 : decide (1024 ≤ (tr.kv.length : Int)) = true) : Calls Try.prog 9 #[pt t 0, .int .i64 at0, .int .i64 id, .slice p vs.length c] w fun e w' => e = .returned (.int .i64 6) ∧ Mo w w' := by
 have hw : (Lit.int .i64 id).wf = true := WalkArith.wf_i64 ⟨hi.1, hi.2⟩
 obtain ⟨R, root, hS, hAp, hC, hR, hn⟩ := h.ts
 have hM := h.om
 obtain ⟨p9, cap9, hsl, _⟩ := hS.sc
 rw [List.length_map] at hsl
 refine w_enter 57 Try.func9 Try.ntmps9 rfl rfl ?_
 have M : Mo w w := Mo.refl _
 refine w_seq (w_reg ?_)
 refine wl_m (.const (.int .i64 (0))) (.int .i64 (0)) ?_
 refine w_nil (xn_then (w_seq (w_block (w_seq (w_reg ?_)))))
 refine wl_m (.tmp 0) (pt t 0) ?_
 refine wl_call 30 [(.tmp 10)] _ [pt t 0] (.bool true) rfl rfl (fun _ _ => by kernel_rfl) (made_n hS) rfl ?_
 intro w1 hq
 replace hS := hS.mo hq
 replace hM := hM.mo hq
 replace M := M.trans hq
 clear hq
 refine wl_un (fun v => Op.unary .not v) (.tmp 11) (.bool true) (.bool false) (fun _ => rfl) rfl (by kernel_rfl) rfl ?_
 refine wl_m (.tmp 12) (.bool false) ?_
 refine w_nil (xn_then (w_condF rfl (w_seq (w_reg ?_))))
 refine wl_m (.tmp 3) (.slice p vs.length c) ?_
 refine wl_val (.int .i64 ((vs.length : Nat) : Int)) (len29 _ _ _ _ _ (by exact rfl) _ _ _ _ _ _) rfl ?_
 refine wl_m (.tmp 0) (pt t 0) ?_
 refine wl_nc (.tmp 16) t 0 rfl rfl rfl ?_
 refine wl_f 68 0 (.tmp 17) (pt t 0) (pt t 0) ?_
 refine wl_l 22 (.tmp 18) (pt t 0) (mb.h) (run_one hS.tr 22 0 rfl Try.underlying22 rfl) ?_
 refine wl_val (.int .i64 ((mb.sc.length : Nat) : Int)) (len22 _ _ _ _ _ (Eq.trans (b := mb.h) (by exact rfl) hsl) _ _ _ _ _ _) rfl ?_
 refine wl_b .neq 3 (.tmp 15) (.tmp 20) (.int .i64 ((vs.length : Nat) : Int)) (.int .i64 ((mb.sc.length : Nat) : Int)) (.bool false) (neN q7 _ _ _) ?_
 refine wl_m (.tmp 21) (.bool false) ?_
 refine w_nil (xn_then (w_condF rfl (w_seq (w_reg ?_))))
 refine wl_m (.tmp 2) (.int .i64 (id)) ?_
 refine wl_b .lss 2 (.tmp 23) (.const (.int .i64 (1))) (.int .i64 (id)) (.int .i64 (1)) (.bool false) (ltL q0 _ _ _) ?_
 refine wl_m (.tmp 24) (.bool false) ?_
 refine wl_m (.tmp 2) (.int .i64 (id)) ?_
 refine wl_b .gtr 2 (.tmp 26) (.const (.int .i64 (9007199254740992))) (.int .i64 (id)) (.int .i64 (9007199254740992)) (.bool false) (gtL q1 _ _ _) ?_
 refine wl_pick (.tmp 25) (.const (.bool true)) (.tmp 27) false (.bool false) (fun _ => rfl) rfl rfl rfl ?_
 refine wl_m (.tmp 28) (.bool false) ?_
 refine w_nil (xn_then (w_condF rfl (w_seq (w_reg ?_))))
 refine wl_m (.tmp 0) (pt t 0) ?_
 refine wl_nc (.tmp 30) t 0 rfl rfl rfl ?_
 refine wl_f 68 2 (.tmp 31) (pt t 0) (pt t 2) ?_
 refine wl_l 66 (.tmp 32) (pt t 2) (.map (some mb.m)) (run_one hS.tr 66 2 rfl Try.underlying66 rfl) ?_
 refine wl_m (.tmp 2) (.int .i64 (id)) ?_
 refine wl_bin (fun x y => Instr.lookup 66 x y false) (.tmp 33) (.tmp 34) (.map (some mb.m)) (.int .i64 (id)) (pp (adr tr.kv id)) (fun _ => rfl) rfl rfl (hM.look hw) rfl ?_
 refine wl_b .neq 65 (.tmp 35) (.const (.pointer none)) (pp (adr tr.kv id)) (pp none) (.bool false) (nePb q2 _ _ _) ?_
 refine wl_m (.tmp 36) (.bool false) ?_
 refine w_nil (xn_then (w_condF rfl (w_seq (w_reg ?_))))
 refine wl_m (.tmp 0) (pt t 0) ?_
 refine wl_call 10 [(.tmp 38)] _ [pt t 0] (.int .i64 ((tr.kv.length : Int))) rfl rfl (fun _ _ => by kernel_rfl) (len_n hS hM) rfl ?_
 intro w2 hq
 replace hS := hS.mo hq
 replace hM := hM.mo hq
 replace M := M.trans hq
 clear hq
 refine wl_b .geq 3 (.tmp 39) (.const (.int .i64 (1024))) (.int .i64 ((tr.kv.length : Int))) (.int .i64 (1024)) (.bool true) (geI q3 _ _ _) ?_
 refine wl_m (.tmp 40) (.bool true) ?_
 refine w_nil (xn_then (w_condT rfl (w_seq (w_reg ?_))))
 refine wl_m (.const (.int .i64 (6))) (.int .i64 (6)) ?_
 refine w_nil (xn_then (w_ret (xr_blk (xr_then ?_))))
 exact w_ret1 _ _ rfl rfl ⟨rfl, M⟩
theorem insert_e {tr : T} {at0 id : Int} {p : Option Addr} {c : Nat} {vs : List V10} (h : FT D w t mb tr lk) (hi : -9223372036854775808 ≤ id ∧ id ≤ 9223372036854775807) (q7 : decide (vs.length = mb.sc.length) = true) (q0 : decide (id < 1) = false) (q1 : decide (9007199254740992 < id) = false) (q2 : (adr tr.kv id).isSome = false) (q3 : decide (1024 ≤ (tr.kv.length : Int)) = false) (q4 : decide (at0 < 0) = true) : Calls Try.prog 9 #[pt t 0, .int .i64 at0, .int .i64 id, .slice p vs.length c] w fun e w' => e = .returned (.int .i64 1) ∧ Mo w w' := by
 have hw : (Lit.int .i64 id).wf = true := WalkArith.wf_i64 ⟨hi.1, hi.2⟩
 obtain ⟨R, root, hS, hAp, hC, hR, hn⟩ := h.ts
 have hM := h.om
 obtain ⟨p9, cap9, hsl, _⟩ := hS.sc
 rw [List.length_map] at hsl
 refine w_enter 57 Try.func9 Try.ntmps9 rfl rfl ?_
 have M : Mo w w := Mo.refl _
 refine w_seq (w_reg ?_)
 refine wl_m (.const (.int .i64 (0))) (.int .i64 (0)) ?_
 refine w_nil (xn_then (w_seq (w_block (w_seq (w_reg ?_)))))
 refine wl_m (.tmp 0) (pt t 0) ?_
 refine wl_call 30 [(.tmp 10)] _ [pt t 0] (.bool true) rfl rfl (fun _ _ => by kernel_rfl) (made_n hS) rfl ?_
 intro w1 hq
 replace hS := hS.mo hq
 replace hM := hM.mo hq
 replace M := M.trans hq
 clear hq
 refine wl_un (fun v => Op.unary .not v) (.tmp 11) (.bool true) (.bool false) (fun _ => rfl) rfl (by kernel_rfl) rfl ?_
 refine wl_m (.tmp 12) (.bool false) ?_
 refine w_nil (xn_then (w_condF rfl (w_seq (w_reg ?_))))
 refine wl_m (.tmp 3) (.slice p vs.length c) ?_
 refine wl_val (.int .i64 ((vs.length : Nat) : Int)) (len29 _ _ _ _ _ (by exact rfl) _ _ _ _ _ _) rfl ?_
 refine wl_m (.tmp 0) (pt t 0) ?_
 refine wl_nc (.tmp 16) t 0 rfl rfl rfl ?_
 refine wl_f 68 0 (.tmp 17) (pt t 0) (pt t 0) ?_
 refine wl_l 22 (.tmp 18) (pt t 0) (mb.h) (run_one hS.tr 22 0 rfl Try.underlying22 rfl) ?_
 refine wl_val (.int .i64 ((mb.sc.length : Nat) : Int)) (len22 _ _ _ _ _ (Eq.trans (b := mb.h) (by exact rfl) hsl) _ _ _ _ _ _) rfl ?_
 refine wl_b .neq 3 (.tmp 15) (.tmp 20) (.int .i64 ((vs.length : Nat) : Int)) (.int .i64 ((mb.sc.length : Nat) : Int)) (.bool false) (neN q7 _ _ _) ?_
 refine wl_m (.tmp 21) (.bool false) ?_
 refine w_nil (xn_then (w_condF rfl (w_seq (w_reg ?_))))
 refine wl_m (.tmp 2) (.int .i64 (id)) ?_
 refine wl_b .lss 2 (.tmp 23) (.const (.int .i64 (1))) (.int .i64 (id)) (.int .i64 (1)) (.bool false) (ltL q0 _ _ _) ?_
 refine wl_m (.tmp 24) (.bool false) ?_
 refine wl_m (.tmp 2) (.int .i64 (id)) ?_
 refine wl_b .gtr 2 (.tmp 26) (.const (.int .i64 (9007199254740992))) (.int .i64 (id)) (.int .i64 (9007199254740992)) (.bool false) (gtL q1 _ _ _) ?_
 refine wl_pick (.tmp 25) (.const (.bool true)) (.tmp 27) false (.bool false) (fun _ => rfl) rfl rfl rfl ?_
 refine wl_m (.tmp 28) (.bool false) ?_
 refine w_nil (xn_then (w_condF rfl (w_seq (w_reg ?_))))
 refine wl_m (.tmp 0) (pt t 0) ?_
 refine wl_nc (.tmp 30) t 0 rfl rfl rfl ?_
 refine wl_f 68 2 (.tmp 31) (pt t 0) (pt t 2) ?_
 refine wl_l 66 (.tmp 32) (pt t 2) (.map (some mb.m)) (run_one hS.tr 66 2 rfl Try.underlying66 rfl) ?_
 refine wl_m (.tmp 2) (.int .i64 (id)) ?_
 refine wl_bin (fun x y => Instr.lookup 66 x y false) (.tmp 33) (.tmp 34) (.map (some mb.m)) (.int .i64 (id)) (pp (adr tr.kv id)) (fun _ => rfl) rfl rfl (hM.look hw) rfl ?_
 refine wl_b .neq 65 (.tmp 35) (.const (.pointer none)) (pp (adr tr.kv id)) (pp none) (.bool false) (nePb q2 _ _ _) ?_
 refine wl_m (.tmp 36) (.bool false) ?_
 refine w_nil (xn_then (w_condF rfl (w_seq (w_reg ?_))))
 refine wl_m (.tmp 0) (pt t 0) ?_
 refine wl_call 10 [(.tmp 38)] _ [pt t 0] (.int .i64 ((tr.kv.length : Int))) rfl rfl (fun _ _ => by kernel_rfl) (len_n hS hM) rfl ?_
 intro w2 hq
 replace hS := hS.mo hq
 replace hM := hM.mo hq
 replace M := M.trans hq
 clear hq
 refine wl_b .geq 3 (.tmp 39) (.const (.int .i64 (1024))) (.int .i64 ((tr.kv.length : Int))) (.int .i64 (1024)) (.bool false) (geI q3 _ _ _) ?_
 refine wl_m (.tmp 40) (.bool false) ?_
 refine w_nil (xn_then (w_condF rfl (w_seq (w_reg ?_))))
 refine wl_m (.tmp 1) (.int .i64 (at0)) ?_
 refine wl_b .lss 3 (.tmp 42) (.const (.int .i64 (0))) (.int .i64 (at0)) (.int .i64 (0)) (.bool true) (ltI q4 _ _ _) ?_
 refine wl_m (.tmp 43) (.bool true) ?_
 refine wl_skip rfl (wl_skip rfl (wl_skip rfl (wl_skip rfl ?_)))
 refine wl_pick (.tmp 44) (.const (.bool true)) (.tmp 48) true (.bool true) (fun _ => rfl) rfl rfl rfl ?_
 refine wl_m (.tmp 49) (.bool true) ?_
 refine w_nil (xn_then (w_condT rfl (w_seq (w_reg ?_))))
 refine wl_m (.const (.int .i64 (1))) (.int .i64 (1)) ?_
 refine w_nil (xn_then (w_ret (xr_blk (xr_then ?_))))
 exact w_ret1 _ _ rfl rfl ⟨rfl, M⟩
theorem insert_f {tr : T} {at0 id : Int} {p : Option Addr} {c : Nat} {vs : List V10} (h : FT D w t mb tr lk) (hi : -9223372036854775808 ≤ id ∧ id ≤ 9223372036854775807) (q7 : decide (vs.length = mb.sc.length) = true) (q0 : decide (id < 1) = false) (q1 : decide (9007199254740992 < id) = false) (q2 : (adr tr.kv id).isSome = false) (q3 : decide (1024 ≤ (tr.kv.length : Int)) = false) (q4 : decide (at0 < 0) = false) (q5 : decide ((tr.kv.length : Int) < at0) = true) : Calls Try.prog 9 #[pt t 0, .int .i64 at0, .int .i64 id, .slice p vs.length c] w fun e w' => e = .returned (.int .i64 1) ∧ Mo w w' := by
 have hw : (Lit.int .i64 id).wf = true := WalkArith.wf_i64 ⟨hi.1, hi.2⟩
 obtain ⟨R, root, hS, hAp, hC, hR, hn⟩ := h.ts
 have hM := h.om
 obtain ⟨p9, cap9, hsl, _⟩ := hS.sc
 rw [List.length_map] at hsl
 refine w_enter 57 Try.func9 Try.ntmps9 rfl rfl ?_
 have M : Mo w w := Mo.refl _
 refine w_seq (w_reg ?_)
 refine wl_m (.const (.int .i64 (0))) (.int .i64 (0)) ?_
 refine w_nil (xn_then (w_seq (w_block (w_seq (w_reg ?_)))))
 refine wl_m (.tmp 0) (pt t 0) ?_
 refine wl_call 30 [(.tmp 10)] _ [pt t 0] (.bool true) rfl rfl (fun _ _ => by kernel_rfl) (made_n hS) rfl ?_
 intro w1 hq
 replace hS := hS.mo hq
 replace hM := hM.mo hq
 replace M := M.trans hq
 clear hq
 refine wl_un (fun v => Op.unary .not v) (.tmp 11) (.bool true) (.bool false) (fun _ => rfl) rfl (by kernel_rfl) rfl ?_
 refine wl_m (.tmp 12) (.bool false) ?_
 refine w_nil (xn_then (w_condF rfl (w_seq (w_reg ?_))))
 refine wl_m (.tmp 3) (.slice p vs.length c) ?_
 refine wl_val (.int .i64 ((vs.length : Nat) : Int)) (len29 _ _ _ _ _ (by exact rfl) _ _ _ _ _ _) rfl ?_
 refine wl_m (.tmp 0) (pt t 0) ?_
 refine wl_nc (.tmp 16) t 0 rfl rfl rfl ?_
 refine wl_f 68 0 (.tmp 17) (pt t 0) (pt t 0) ?_
 refine wl_l 22 (.tmp 18) (pt t 0) (mb.h) (run_one hS.tr 22 0 rfl Try.underlying22 rfl) ?_
 refine wl_val (.int .i64 ((mb.sc.length : Nat) : Int)) (len22 _ _ _ _ _ (Eq.trans (b := mb.h) (by exact rfl) hsl) _ _ _ _ _ _) rfl ?_
 refine wl_b .neq 3 (.tmp 15) (.tmp 20) (.int .i64 ((vs.length : Nat) : Int)) (.int .i64 ((mb.sc.length : Nat) : Int)) (.bool false) (neN q7 _ _ _) ?_
 refine wl_m (.tmp 21) (.bool false) ?_
 refine w_nil (xn_then (w_condF rfl (w_seq (w_reg ?_))))
 refine wl_m (.tmp 2) (.int .i64 (id)) ?_
 refine wl_b .lss 2 (.tmp 23) (.const (.int .i64 (1))) (.int .i64 (id)) (.int .i64 (1)) (.bool false) (ltL q0 _ _ _) ?_
 refine wl_m (.tmp 24) (.bool false) ?_
 refine wl_m (.tmp 2) (.int .i64 (id)) ?_
 refine wl_b .gtr 2 (.tmp 26) (.const (.int .i64 (9007199254740992))) (.int .i64 (id)) (.int .i64 (9007199254740992)) (.bool false) (gtL q1 _ _ _) ?_
 refine wl_pick (.tmp 25) (.const (.bool true)) (.tmp 27) false (.bool false) (fun _ => rfl) rfl rfl rfl ?_
 refine wl_m (.tmp 28) (.bool false) ?_
 refine w_nil (xn_then (w_condF rfl (w_seq (w_reg ?_))))
 refine wl_m (.tmp 0) (pt t 0) ?_
 refine wl_nc (.tmp 30) t 0 rfl rfl rfl ?_
 refine wl_f 68 2 (.tmp 31) (pt t 0) (pt t 2) ?_
 refine wl_l 66 (.tmp 32) (pt t 2) (.map (some mb.m)) (run_one hS.tr 66 2 rfl Try.underlying66 rfl) ?_
 refine wl_m (.tmp 2) (.int .i64 (id)) ?_
 refine wl_bin (fun x y => Instr.lookup 66 x y false) (.tmp 33) (.tmp 34) (.map (some mb.m)) (.int .i64 (id)) (pp (adr tr.kv id)) (fun _ => rfl) rfl rfl (hM.look hw) rfl ?_
 refine wl_b .neq 65 (.tmp 35) (.const (.pointer none)) (pp (adr tr.kv id)) (pp none) (.bool false) (nePb q2 _ _ _) ?_
 refine wl_m (.tmp 36) (.bool false) ?_
 refine w_nil (xn_then (w_condF rfl (w_seq (w_reg ?_))))
 refine wl_m (.tmp 0) (pt t 0) ?_
 refine wl_call 10 [(.tmp 38)] _ [pt t 0] (.int .i64 ((tr.kv.length : Int))) rfl rfl (fun _ _ => by kernel_rfl) (len_n hS hM) rfl ?_
 intro w2 hq
 replace hS := hS.mo hq
 replace hM := hM.mo hq
 replace M := M.trans hq
 clear hq
 refine wl_b .geq 3 (.tmp 39) (.const (.int .i64 (1024))) (.int .i64 ((tr.kv.length : Int))) (.int .i64 (1024)) (.bool false) (geI q3 _ _ _) ?_
 refine wl_m (.tmp 40) (.bool false) ?_
 refine w_nil (xn_then (w_condF rfl (w_seq (w_reg ?_))))
 refine wl_m (.tmp 1) (.int .i64 (at0)) ?_
 refine wl_b .lss 3 (.tmp 42) (.const (.int .i64 (0))) (.int .i64 (at0)) (.int .i64 (0)) (.bool false) (ltI q4 _ _ _) ?_
 refine wl_m (.tmp 43) (.bool false) ?_
 refine wl_m (.tmp 1) (.int .i64 (at0)) ?_
 refine wl_m (.tmp 0) (pt t 0) ?_
 refine wl_call 10 [(.tmp 46)] _ [pt t 0] (.int .i64 ((tr.kv.length : Int))) rfl rfl (fun _ _ => by kernel_rfl) (len_n hS hM) rfl ?_
 intro w3 hq
 replace hS := hS.mo hq
 replace hM := hM.mo hq
 replace M := M.trans hq
 clear hq
 refine wl_b .gtr 3 (.tmp 45) (.tmp 47) (.int .i64 (at0)) (.int .i64 ((tr.kv.length : Int))) (.bool true) (gtI q5 _ _ _) ?_
 refine wl_pick (.tmp 44) (.const (.bool true)) (.tmp 48) false (.bool true) (fun _ => rfl) rfl rfl rfl ?_
 refine wl_m (.tmp 49) (.bool true) ?_
 refine w_nil (xn_then (w_condT rfl (w_seq (w_reg ?_))))
 refine wl_m (.const (.int .i64 (1))) (.int .i64 (1)) ?_
 refine w_nil (xn_then (w_ret (xr_blk (xr_then ?_))))
 exact w_ret1 _ _ rfl rfl ⟨rfl, M⟩
theorem insert_ok {tr : T} {at0 id : Int} {p : Option Addr} {c : Nat} {vs : List V10} (h : FT D w t mb tr lk) (hi : -9223372036854775808 ≤ id ∧ id ≤ 9223372036854775807) (q7 : decide (vs.length = mb.sc.length) = true) (q0 : decide (id < 1) = false) (q1 : decide (9007199254740992 < id) = false) (q2 : (adr tr.kv id).isSome = false) (q3 : decide (1024 ≤ (tr.kv.length : Int)) = false) (q4 : decide (at0 < 0) = false) (q5 : decide ((tr.kv.length : Int) < at0) = false) (hlk : lk ≤ 3000000000000000000) (hSVm : ∀ w', Mk (fun j => D j ∨ j = mb.m) w w' → SVv w' p vs) (hvo : ∀ x ∈ vs, x.n.ok) : Calls Try.prog 9 #[pt t 0, .int .i64 at0, .int .i64 id, .slice p vs.length c] w fun e w' => ∃ y kn tr' lk' D', e = .returned (.int .i64 0) ∧ Ins tr at0 ⟨id, y, vs⟩ kn tr' ∧ FT D' w' t mb tr' lk' ∧ w.heap.size ≤ kn ∧ lk < lk' ∧ lk' ≤ lk + 10 * tr.ht + 8 ∧ Mk (fun j => D j ∨ j = mb.m) w w' ∧ ∀ j, D' j → D j ∨ w.heap.size ≤ j := by
 have hw : (Lit.int .i64 id).wf = true := WalkArith.wf_i64 ⟨hi.1, hi.2⟩
 obtain ⟨R, root, hS, hAp, hC, hR, hn⟩ := h.ts
 have hM := h.om
 obtain ⟨p9, cap9, hsl, _⟩ := hS.sc
 rw [List.length_map] at hsl
 have hkl := tr.kv_len
 have hnc := hS.nc
 have hq7 := of_decide_eq_true q7
 have hid : id ∉ tr.ids.map (·.i) := fun m => by rw [← T.kv_ids] at m; rw [adr_is.2 m] at q2; cases q2
 refine w_enter 57 Try.func9 Try.ntmps9 rfl rfl ?_
 have M : Mk (fun j => D j ∨ j = mb.m) w w := Mk.refl _ _
 refine w_seq (w_reg ?_)
 refine wl_m (.const (.int .i64 (0))) (.int .i64 (0)) ?_
 refine w_nil (xn_then (w_seq (w_block (w_seq (w_reg ?_)))))
 refine wl_m (.tmp 0) (pt t 0) ?_
 refine wl_call 30 [(.tmp 10)] _ [pt t 0] (.bool true) rfl rfl (fun _ _ => by kernel_rfl) (made_n hS) rfl ?_
 intro w1 hq
 replace hS := hS.mo hq
 replace hM := hM.mo hq
 replace M := M.trans hq
 clear hq
 refine wl_un (fun v => Op.unary .not v) (.tmp 11) (.bool true) (.bool false) (fun _ => rfl) rfl (by kernel_rfl) rfl ?_
 refine wl_m (.tmp 12) (.bool false) ?_
 refine w_nil (xn_then (w_condF rfl (w_seq (w_reg ?_))))
 refine wl_m (.tmp 3) (.slice p vs.length c) ?_
 refine wl_val (.int .i64 ((vs.length : Nat) : Int)) (len29 _ _ _ _ _ (by exact rfl) _ _ _ _ _ _) rfl ?_
 refine wl_m (.tmp 0) (pt t 0) ?_
 refine wl_nc (.tmp 16) t 0 rfl rfl rfl ?_
 refine wl_f 68 0 (.tmp 17) (pt t 0) (pt t 0) ?_
 refine wl_l 22 (.tmp 18) (pt t 0) (mb.h) (run_one hS.tr 22 0 rfl Try.underlying22 rfl) ?_
 refine wl_val (.int .i64 ((mb.sc.length : Nat) : Int)) (len22 _ _ _ _ _ (Eq.trans (b := mb.h) (by exact rfl) hsl) _ _ _ _ _ _) rfl ?_
 refine wl_b .neq 3 (.tmp 15) (.tmp 20) (.int .i64 ((vs.length : Nat) : Int)) (.int .i64 ((mb.sc.length : Nat) : Int)) (.bool false) (neN q7 _ _ _) ?_
 refine wl_m (.tmp 21) (.bool false) ?_
 refine w_nil (xn_then (w_condF rfl (w_seq (w_reg ?_))))
 refine wl_m (.tmp 2) (.int .i64 (id)) ?_
 refine wl_b .lss 2 (.tmp 23) (.const (.int .i64 (1))) (.int .i64 (id)) (.int .i64 (1)) (.bool false) (ltL q0 _ _ _) ?_
 refine wl_m (.tmp 24) (.bool false) ?_
 refine wl_m (.tmp 2) (.int .i64 (id)) ?_
 refine wl_b .gtr 2 (.tmp 26) (.const (.int .i64 (9007199254740992))) (.int .i64 (id)) (.int .i64 (9007199254740992)) (.bool false) (gtL q1 _ _ _) ?_
 refine wl_pick (.tmp 25) (.const (.bool true)) (.tmp 27) false (.bool false) (fun _ => rfl) rfl rfl rfl ?_
 refine wl_m (.tmp 28) (.bool false) ?_
 refine w_nil (xn_then (w_condF rfl (w_seq (w_reg ?_))))
 refine wl_m (.tmp 0) (pt t 0) ?_
 refine wl_nc (.tmp 30) t 0 rfl rfl rfl ?_
 refine wl_f 68 2 (.tmp 31) (pt t 0) (pt t 2) ?_
 refine wl_l 66 (.tmp 32) (pt t 2) (.map (some mb.m)) (run_one hS.tr 66 2 rfl Try.underlying66 rfl) ?_
 refine wl_m (.tmp 2) (.int .i64 (id)) ?_
 refine wl_bin (fun x y => Instr.lookup 66 x y false) (.tmp 33) (.tmp 34) (.map (some mb.m)) (.int .i64 (id)) (pp (adr tr.kv id)) (fun _ => rfl) rfl rfl (hM.look hw) rfl ?_
 refine wl_b .neq 65 (.tmp 35) (.const (.pointer none)) (pp (adr tr.kv id)) (pp none) (.bool false) (nePb q2 _ _ _) ?_
 refine wl_m (.tmp 36) (.bool false) ?_
 refine w_nil (xn_then (w_condF rfl (w_seq (w_reg ?_))))
 refine wl_m (.tmp 0) (pt t 0) ?_
 refine wl_call 10 [(.tmp 38)] _ [pt t 0] (.int .i64 ((tr.kv.length : Int))) rfl rfl (fun _ _ => by kernel_rfl) (len_n hS hM) rfl ?_
 intro w2 hq
 replace hS := hS.mo hq
 replace hM := hM.mo hq
 replace M := M.trans hq
 clear hq
 refine wl_b .geq 3 (.tmp 39) (.const (.int .i64 (1024))) (.int .i64 ((tr.kv.length : Int))) (.int .i64 (1024)) (.bool false) (geI q3 _ _ _) ?_
 refine wl_m (.tmp 40) (.bool false) ?_
 refine w_nil (xn_then (w_condF rfl (w_seq (w_reg ?_))))
 refine wl_m (.tmp 1) (.int .i64 (at0)) ?_
 refine wl_b .lss 3 (.tmp 42) (.const (.int .i64 (0))) (.int .i64 (at0)) (.int .i64 (0)) (.bool false) (ltI q4 _ _ _) ?_
 refine wl_m (.tmp 43) (.bool false) ?_
 refine wl_m (.tmp 1) (.int .i64 (at0)) ?_
 refine wl_m (.tmp 0) (pt t 0) ?_
 refine wl_call 10 [(.tmp 46)] _ [pt t 0] (.int .i64 ((tr.kv.length : Int))) rfl rfl (fun _ _ => by kernel_rfl) (len_n hS hM) rfl ?_
 intro w3 hq
 replace hS := hS.mo hq
 replace hM := hM.mo hq
 replace M := M.trans hq
 clear hq
 refine wl_b .gtr 3 (.tmp 45) (.tmp 47) (.int .i64 (at0)) (.int .i64 ((tr.kv.length : Int))) (.bool false) (gtI q5 _ _ _) ?_
 refine wl_pick (.tmp 44) (.const (.bool true)) (.tmp 48) false (.bool false) (fun _ => rfl) rfl rfl rfl ?_
 refine wl_m (.tmp 49) (.bool false) ?_
 refine w_nil (xn_then (w_condF rfl (w_skip (xn_blk (xn_then (w_seq (w_reg ?_)))))))
 refine wl_m (.tmp 0) (pt t 0) ?_
 refine wl_m (.tmp 1) (.int .i64 (at0)) ?_
 refine wl_m (.tmp 2) (.int .i64 (id)) ?_
 refine wl_m (.tmp 3) (.slice p vs.length c) ?_
 have hMs := M.size
 have hDl : ∀ j, D j → j < w3.heap.size := fun j e => hS.lt e
 have hml := hM.lt
 have hsl2 : ∀ b, ob mb.h = some b → b < w3.heap.size := fun b e => hS.sc.lt e
 have hSV9 := hSVm _ M
 refine wl_callx 22 [(.tmp 53)] _ [.slice p vs.length c] rfl rfl (fun _ _ => by kernel_rfl) (clv_vs hSV9 (by omega)) rfl ?_
 rintro _ w4 ⟨p', c', rfl, hRw, hob, hq⟩
 refine ⟨_, rfl, ?_⟩
 replace hS := hS.mo hq
 replace hM := hM.mo hq
 replace M := M.trans hq
 clear hq
 refine wl_build 83 [(0, (.tmp 52)), (1, (.tmp 54))] [(0, .int .i64 id), (1, .slice p' vs.length c')] (.agg #[.int .i64 id, .slice p' vs.length c']) rfl rfl (by kernel_rfl) rfl ?_
 have hFn : FT D _ t mb tr lk := ⟨⟨R, root, ⟨hS, hAp, hC, hR, hn⟩⟩, hM, h.ok, h.nd, h.rg, h.le, h.l0, h.hm⟩
 refine wl_callg 31 [(.tmp 50), (.tmp 51), (.tmp 55)] _ [pt t 0, .int .i64 (at0), .agg #[.int .i64 id, .slice p' vs.length c']] (.tuple #[]) rfl rfl (fun _ _ => by kernel_rfl) (put_f hFn hid (by have := of_decide_eq_false q0; omega) (by have := of_decide_eq_false q1; omega) (by have := of_decide_eq_false q3; omega) (by have := of_decide_eq_false q4; omega) (by have := of_decide_eq_false q5; omega) hlk ⟨hRw, of_decide_eq_true q7, hvo⟩ (fun b hb => ⟨fun e => by have := hDl b e; have := hob b hb; omega, fun e => by have := hob b hb; omega, fun e => by have := hsl2 b e; have := hob b hb; omega⟩)) rfl ?_
 intro w5 hF
 obtain ⟨kn, tr2, lk2, D2, hI, hF2, hkn, hk1, hk2, hM2, hD2⟩ := hF
 have hMs2 := M.size
 replace hkn := Nat.le_trans M.size hkn
 replace M := M.tr hM2 (fun j hj e => by rcases e with e | e | e; exact Or.inl e; exact Or.inr e; have := hob j e; omega)
 refine w_nil (xn_then (w_seq (w_reg ?_)))
 refine wl_m (.const (.int .i64 (0))) (.int .i64 (0)) ?_
 refine w_nil (xn_then (w_ret ?_))
 exact w_ret1 _ (.int .i64 (0)) rfl rfl ⟨_, kn, tr2, lk2, D2, rfl, hI, hF2, hkn, hk1, hk2, M, fun j e => by rcases hD2 j e with e | e | e; exact Or.inl e; exact Or.inr (by omega); exact Or.inr (by have := hob j e; omega)⟩
end
end G
end Go.Proofs.Ythfemlhmnjfjiaa
/-
 The tree's has, Sum.
-/
namespace Go.Proofs.Ythfemlhmnjfjiaa
open Go.RowKit
namespace G
section
variable {D : Nat → Prop} {w : World} {t : Nat} {mb : Hd} {R : Mp} {root : Option Nat} {lk : Int}
theorem has_n {w : World} (hS : HS D w t mb R root lk) (cn : Int) : Calls Try.prog 32 #[pt t 0, .int .i64 cn] w fun e w' => e = .returned (.bool (decide (0 ≤ cn) && decide (cn < (mb.sc.length : Int)))) ∧ Mo w w' := by
 obtain ⟨p9, cap9, hsl, _⟩ := hS.sc
 rw [List.length_map] at hsl
 refine w_enter 16 Try.func32 Try.ntmps32 rfl rfl ?_
 have M : Mo w w := Mo.refl _
 refine w_seq (w_reg ?_)
 refine wl_m (.const (.bool false)) (.bool false) ?_
 refine w_nil (xn_then (w_seq ?_))
 cases hf0 : decide (0 ≤ cn) with
 | true =>
  have hf0p := of_decide_eq_true hf0
  cases hf1 : decide (cn < (mb.sc.length : Int)) with
  | true =>
   have hf1p := of_decide_eq_true hf1
   refine w_reg ?_
   refine wl_m (.tmp 1) (.int .i64 (cn)) ?_
   refine wl_b .geq 3 (.tmp 5) (.const (.int .i64 (0))) (.int .i64 (cn)) (.int .i64 (0)) (.bool true) (geI hf0 _ _ _) ?_
   refine wl_m (.tmp 6) (.bool true) ?_
   refine wl_m (.tmp 1) (.int .i64 (cn)) ?_
   refine wl_m (.tmp 0) (pt t 0) ?_
   refine wl_nc (.tmp 9) t 0 rfl rfl rfl ?_
   refine wl_f 68 0 (.tmp 10) (pt t 0) (pt t 0) ?_
   refine wl_l 22 (.tmp 11) (pt t 0) (mb.h) (run_one hS.tr 22 0 rfl Try.underlying22 rfl) ?_
   refine wl_val (.int .i64 ((mb.sc.length : Nat) : Int)) (len22 _ _ _ _ _ (Eq.trans (b := mb.h) (by exact rfl) hsl) _ _ _ _ _ _) rfl ?_
   refine wl_b .lss 3 (.tmp 8) (.tmp 13) (.int .i64 (cn)) (.int .i64 ((mb.sc.length : Nat) : Int)) (.bool true) (ltI hf1 _ _ _) ?_
   refine wl_pick (.tmp 7) (.tmp 14) (.const (.bool false)) true (.bool true) (fun _ => rfl) rfl rfl rfl ?_
   refine wl_m (.tmp 15) (.bool true) ?_
   refine w_nil (xn_then (w_ret ?_))
   exact w_ret1 _ _ rfl rfl ⟨rfl, M⟩
  | false =>
   have hf1p := of_decide_eq_false hf1
   refine w_reg ?_
   refine wl_m (.tmp 1) (.int .i64 (cn)) ?_
   refine wl_b .geq 3 (.tmp 5) (.const (.int .i64 (0))) (.int .i64 (cn)) (.int .i64 (0)) (.bool true) (geI hf0 _ _ _) ?_
   refine wl_m (.tmp 6) (.bool true) ?_
   refine wl_m (.tmp 1) (.int .i64 (cn)) ?_
   refine wl_m (.tmp 0) (pt t 0) ?_
   refine wl_nc (.tmp 9) t 0 rfl rfl rfl ?_
   refine wl_f 68 0 (.tmp 10) (pt t 0) (pt t 0) ?_
   refine wl_l 22 (.tmp 11) (pt t 0) (mb.h) (run_one hS.tr 22 0 rfl Try.underlying22 rfl) ?_
   refine wl_val (.int .i64 ((mb.sc.length : Nat) : Int)) (len22 _ _ _ _ _ (Eq.trans (b := mb.h) (by exact rfl) hsl) _ _ _ _ _ _) rfl ?_
   refine wl_b .lss 3 (.tmp 8) (.tmp 13) (.int .i64 (cn)) (.int .i64 ((mb.sc.length : Nat) : Int)) (.bool false) (ltI hf1 _ _ _) ?_
   refine wl_pick (.tmp 7) (.tmp 14) (.const (.bool false)) true (.bool false) (fun _ => rfl) rfl rfl rfl ?_
   refine wl_m (.tmp 15) (.bool false) ?_
   refine w_nil (xn_then (w_ret ?_))
   exact w_ret1 _ _ rfl rfl ⟨rfl, M⟩
 | false =>
  have hf0p := of_decide_eq_false hf0
  refine w_reg ?_
  refine wl_m (.tmp 1) (.int .i64 (cn)) ?_
  refine wl_b .geq 3 (.tmp 5) (.const (.int .i64 (0))) (.int .i64 (cn)) (.int .i64 (0)) (.bool false) (geI hf0 _ _ _) ?_
  refine wl_m (.tmp 6) (.bool false) ?_
  refine wl_skip rfl (wl_skip rfl (wl_skip rfl (wl_skip rfl (wl_skip rfl (wl_skip rfl (wl_skip rfl ?_))))))
  refine wl_pick (.tmp 7) (.tmp 14) (.const (.bool false)) false (.bool false) (fun _ => rfl) rfl rfl rfl ?_
  refine wl_m (.tmp 15) (.bool false) ?_
  refine w_nil (xn_then (w_ret ?_))
  exact w_ret1 _ _ rfl rfl ⟨rfl, M⟩
theorem sumc_a {tr : T} {cn : Int} (h : FT D w t mb tr lk) (qc : (decide (0 ≤ cn) && decide (cn < (mb.sc.length : Int))) = false) : Calls Try.prog 12 #[pt t 0, .int .i64 cn] w fun e w' => e = .returned (.tuple #[smv sm0, .int .i64 1]) ∧ Mo w w' := by
 obtain ⟨R, root, hS, hAp, hC, hR, hn⟩ := h.ts
 have hM := h.om
 have hDlt : ∀ j, D j → j < w.heap.size := fun j e => hS.lt e
 have hslt : ∀ b, ob mb.h = some b → b < w.heap.size := fun b e => hS.sc.lt e
 have hmlt := hM.lt
 refine w_enter 28 Try.func12 Try.ntmps12 rfl rfl ?_
 have M : Mk (fun _ => False) w w := Mk.refl _ _
 refine w_seq (w_reg ?_)
 refine wl_alloc 42 #[.int .i64 0, .int .i64 0, .int .i64 0, .int .i64 0, .int .i64 0, .int .u64 0, .int .u64 0, .int .u64 0, .int .u64 0, .int .u64 0, .bool false, .bool false, .int .u64 0, .int .u64 0, .int .u64 0, .int .u64 0, .int .i64 0, .bool false, .int .u64 0, .int .u64 0, .int .u64 0, .int .u64 0, .int .i64 0] rfl (fun _ => by kernel_rfl) rfl ?_
 intro k1 w1 hk hz hq Q1
 have hMs := M.size
 have N_k1 : w.heap.size ≤ k1 := by omega
 have nd_k1 : ¬ D k1 := fun e => by have := hDlt _ e; omega
 have nm_k1 : k1 ≠ mb.m := by omega
 have ns_k1 : ∀ b, ob mb.h = some b → b ≠ k1 := fun b hb => by have := hslt b hb; omega
 replace hS := hS.mo hq
 replace hM := hM.mo hq
 replace M := M.trans hq
 clear hk hz hq hMs
 refine wl_m (.const (.int .i64 (0))) (.int .i64 (0)) ?_
 refine w_nil (xn_then (w_seq (w_seq (w_reg ?_))))
 refine wl_m (.tmp 0) (pt t 0) ?_
 refine wl_call 30 [(.tmp 6)] _ [pt t 0] (.bool true) rfl rfl (fun _ _ => by kernel_rfl) (made_n hS) rfl ?_
 intro w2 hq
 replace Q1 := Q1.mo hq
 replace hS := hS.mo hq
 replace hM := hM.mo hq
 replace M := M.trans hq
 clear hq
 refine wl_un (fun v => Op.unary .not v) (.tmp 7) (.bool true) (.bool false) (fun _ => rfl) rfl (by kernel_rfl) rfl ?_
 refine w_nil (xn_then (w_condF rfl (w_skip (xn_then (w_seq (w_seq (w_reg ?_)))))))
 refine wl_m (.tmp 0) (pt t 0) ?_
 refine wl_m (.tmp 1) (.int .i64 (cn)) ?_
 refine wl_call 32 [(.tmp 10), (.tmp 11)] _ [pt t 0, .int .i64 (cn)] (.bool false) rfl rfl (fun _ _ => by kernel_rfl) (by have := has_n hS cn; rw [qc] at this; exact this) rfl ?_
 intro w3 hq
 replace Q1 := Q1.mo hq
 replace hS := hS.mo hq
 replace hM := hM.mo hq
 replace M := M.trans hq
 clear hq
 refine wl_un (fun v => Op.unary .not v) (.tmp 12) (.bool false) (.bool true) (fun _ => rfl) rfl (by kernel_rfl) rfl ?_
 refine w_nil (xn_then (w_condT rfl (w_seq (w_reg ?_))))
 refine wl_build 42 [] [] (.agg #[.int .i64 0, .int .i64 0, .int .i64 0, .int .i64 0, .int .i64 0, .int .u64 0, .int .u64 0, .int .u64 0, .int .u64 0, .int .u64 0, .bool false, .bool false, .int .u64 0, .int .u64 0, .int .u64 0, .int .u64 0, .int .i64 0, .bool false, .int .u64 0, .int .u64 0, .int .u64 0, .int .u64 0, .int .i64 0]) rfl rfl (by kernel_rfl) rfl ?_
 refine wl_stx2 42 (.tmp 4) (.tmp 14) k1 0 #[.int .i64 0, .int .i64 0, .int .i64 0, .int .i64 0, .int .i64 0, .int .u64 0, .int .u64 0, .int .u64 0, .int .u64 0, .int .u64 0, .bool false, .bool false, .int .u64 0, .int .u64 0, .int .u64 0, .int .u64 0, .int .i64 0, .bool false, .int .u64 0, .int .u64 0, .int .u64 0, .int .u64 0, .int .i64 0] _ [.int .i64 0, .int .i64 0, .int .i64 0, .int .i64 0, .int .i64 0, .int .u64 0, .int .u64 0, .int .u64 0, .int .u64 0, .int .u64 0, .bool false, .bool false, .int .u64 0, .int .u64 0, .int .u64 0, .int .u64 0, .int .i64 0, .bool false, .int .u64 0, .int .u64 0, .int .u64 0, .int .u64 0, .int .i64 0] Q1 rfl rfl rfl rfl rfl zs42 rfl rfl rfl ?_
 intro w4 hT Qn
 replace Q1 := Qn
 have hK := Mk.st1 hT
 replace hM := hM.mk hK (Ne.symm nm_k1)
 replace hS := hS.kept hK (fun j e q => nd_k1 (q ▸ e)) (fun b hb q => ns_k1 b hb q)
 replace M := M.tr hK (fun j hj e => absurd e (by omega))
 clear hT hK Qn
 refine wl_m (.const (.int .i64 (1))) (.int .i64 (1)) ?_
 refine w_nil (xn_then (w_ret (xr_then ?_)))
 exact w_ret2 _ _ (.agg #[.int .i64 0, .int .i64 0, .int .i64 0, .int .i64 0, .int .i64 0, .int .u64 0, .int .u64 0, .int .u64 0, .int .u64 0, .int .u64 0, .bool false, .bool false, .int .u64 0, .int .u64 0, .int .u64 0, .int .u64 0, .int .i64 0, .bool false, .int .u64 0, .int .u64 0, .int .u64 0, .int .u64 0, .int .i64 0]) (.int .i64 (1)) rfl ⟨k1, rfl, (run_row Q1 42 0 23 _ rfl Try.underlying42 rfl zs42)⟩ rfl ⟨rfl, M.mo (Mo.refl _) (fun k e => e.elim)⟩
theorem sumc_ok {tr : T} {cn : Int} (h : FT D w t mb tr lk) (qc : (decide (0 ≤ cn) && decide (cn < (mb.sc.length : Int))) = true) (hlk : lk ≤ 3000000000000000000) : Calls Try.prog 12 #[pt t 0, .int .i64 cn] w fun e w' => ∃ lk', e = .returned (.tuple #[smv (col cn.toNat (mb.sc.getD cn.toNat 0) tr.ids), .int .i64 0]) ∧ FT D w' t mb tr lk' ∧ lk ≤ lk' ∧ lk' ≤ lk + 1 ∧ Mk D w w' := by
 obtain ⟨R, root, hS, hAp, hC, hR, hn⟩ := h.ts
 have hM := h.om
 have hDlt : ∀ j, D j → j < w.heap.size := fun j e => hS.lt e
 have hslt : ∀ b, ob mb.h = some b → b < w.heap.size := fun b e => hS.sc.lt e
 have hmlt := hM.lt
 have hl00 := h.l0
 replace hC : root = tr.p := hC
 subst hC
 have hC : RepC mb.sc R tr.p [] tr.p := rfl
 simp only [Bool.and_eq_true, decide_eq_true_eq] at qc
 have hcn : ((cn.toNat : Nat) : Int) = cn := Int.toNat_of_nonneg qc.1
 have hclt : cn.toNat < mb.sc.length := by omega
 rw [← hcn]
 replace qc : (decide (0 ≤ ((cn.toNat : Nat) : Int)) && decide (((cn.toNat : Nat) : Int) < (mb.sc.length : Int))) = true := by simp only [Bool.and_eq_true, decide_eq_true_eq]; omega
 have hsum : smo R tr.p cn.toNat (col cn.toNat (mb.sc.getD cn.toNat 0) tr.ids) := smo_of hR hclt
 rw [show ((cn.toNat : Nat) : Int).toNat = cn.toNat by omega]
 refine w_enter 28 Try.func12 Try.ntmps12 rfl rfl ?_
 have M : Mk D w w := Mk.refl _ _
 refine w_seq (w_reg ?_)
 refine wl_alloc 42 #[.int .i64 0, .int .i64 0, .int .i64 0, .int .i64 0, .int .i64 0, .int .u64 0, .int .u64 0, .int .u64 0, .int .u64 0, .int .u64 0, .bool false, .bool false, .int .u64 0, .int .u64 0, .int .u64 0, .int .u64 0, .int .i64 0, .bool false, .int .u64 0, .int .u64 0, .int .u64 0, .int .u64 0, .int .i64 0] rfl (fun _ => by kernel_rfl) rfl ?_
 intro k1 w1 hk hz hq Q1
 have hMs := M.size
 have N_k1 : w.heap.size ≤ k1 := by omega
 have nd_k1 : ¬ D k1 := fun e => by have := hDlt _ e; omega
 have nm_k1 : k1 ≠ mb.m := by omega
 have ns_k1 : ∀ b, ob mb.h = some b → b ≠ k1 := fun b hb => by have := hslt b hb; omega
 replace hS := hS.mo hq
 replace hM := hM.mo hq
 replace M := M.trans hq
 clear hk hz hq hMs
 refine wl_m (.const (.int .i64 (0))) (.int .i64 (0)) ?_
 refine w_nil (xn_then (w_seq (w_seq (w_reg ?_))))
 refine wl_m (.tmp 0) (pt t 0) ?_
 refine wl_call 30 [(.tmp 6)] _ [pt t 0] (.bool true) rfl rfl (fun _ _ => by kernel_rfl) (made_n hS) rfl ?_
 intro w2 hq
 replace Q1 := Q1.mo hq
 replace hS := hS.mo hq
 replace hM := hM.mo hq
 replace M := M.trans hq
 clear hq
 refine wl_un (fun v => Op.unary .not v) (.tmp 7) (.bool true) (.bool false) (fun _ => rfl) rfl (by kernel_rfl) rfl ?_
 refine w_nil (xn_then (w_condF rfl (w_skip (xn_then (w_seq (w_seq (w_reg ?_)))))))
 refine wl_m (.tmp 0) (pt t 0) ?_
 refine wl_m (.tmp 1) (.int .i64 ((cn.toNat : Nat) : Int)) ?_
 refine wl_call 32 [(.tmp 10), (.tmp 11)] _ [pt t 0, .int .i64 ((cn.toNat : Nat) : Int)] (.bool true) rfl rfl (fun _ _ => by kernel_rfl) (by have := has_n hS ((cn.toNat : Nat) : Int); rw [qc] at this; exact this) rfl ?_
 intro w3 hq
 replace Q1 := Q1.mo hq
 replace hS := hS.mo hq
 replace hM := hM.mo hq
 replace M := M.trans hq
 clear hq
 refine wl_un (fun v => Op.unary .not v) (.tmp 12) (.bool true) (.bool false) (fun _ => rfl) rfl (by kernel_rfl) rfl ?_
 refine w_nil (xn_then (w_condF rfl (w_skip (xn_then (w_seq (w_reg ?_))))))
 refine wl_m (.tmp 0) (pt t 0) ?_
 refine wl_m (.tmp 0) (pt t 0) ?_
 refine wl_nc (.tmp 16) t 0 rfl rfl rfl ?_
 refine wl_f 68 1 (.tmp 17) (pt t 0) (pt t 1) ?_
 refine wl_l 65 (.tmp 18) (pt t 1) (pp tr.p) (run_one hS.tr 65 1 rfl Try.underlying65 rfl) ?_
 refine wl_bsl [(0, (.tmp 19))] [pp tr.p] 1 rfl rfl (bs1 tr.p) rfl ?_
 intro g2 w4 hk hz hq Q2
 have nd_g2 : ¬ D g2 := fun e => by have := hS.lt e; omega
 replace Q1 := Q1.mo hq
 replace hS := hS.mo hq
 replace hM := hM.mo hq
 replace M := M.trans hq
 clear hk hz hq
 refine wl_callg 34 [(.tmp 15), (.tmp 20)] _ [pt t 0, .slice (some ⟨g2, 0, none⟩) 1 1] (.tuple #[]) rfl rfl (fun _ _ => by kernel_rfl) (look_n [tr.p] g2 hS Q2 nd_g2 (by simp only [List.length_cons, List.length_nil]; omega)) rfl ?_
 intro w5 hF
 replace Q1 := hF.2.at Q1 nd_k1
 have hc1 := cnt_le [tr.p]
 simp only [List.length_cons, List.length_nil] at hc1
 obtain ⟨hS2, hM2⟩ := hF
 replace hS := hS2
 replace M := M.same hM2
 replace hM := hM.mk hM2 hS.nb
 clear hS2 hM2 Q2 nd_g2
 refine w_nil (xn_then (w_seq (w_reg ?_)))
 refine wl_m (.tmp 0) (pt t 0) ?_
 refine wl_nc (.tmp 22) t 0 rfl rfl rfl ?_
 refine wl_f 68 1 (.tmp 23) (pt t 0) (pt t 1) ?_
 refine wl_l 65 (.tmp 24) (pt t 1) (pp tr.p) (run_one hS.tr 65 1 rfl Try.underlying65 rfl) ?_
 refine wl_m (.tmp 1) (.int .i64 ((cn.toNat : Nat) : Int)) ?_
 refine wl_call 35 [(.tmp 25), (.tmp 26)] _ [pp tr.p, .int .i64 ((cn.toNat : Nat) : Int)] (.agg #[.int .i64 ((col cn.toNat (mb.sc.getD cn.toNat 0) tr.ids)).r, .int .i64 ((col cn.toNat (mb.sc.getD cn.toNat 0) tr.ids)).f, .int .i64 ((col cn.toNat (mb.sc.getD cn.toNat 0) tr.ids)).k, .int .i64 ((col cn.toNat (mb.sc.getD cn.toNat 0) tr.ids)).d, .int .i64 ((col cn.toNat (mb.sc.getD cn.toNat 0) tr.ids)).e, .int .u64 (l0 ((col cn.toNat (mb.sc.getD cn.toNat 0) tr.ids)).tt), .int .u64 (l1 ((col cn.toNat (mb.sc.getD cn.toNat 0) tr.ids)).tt), .int .u64 (l2 ((col cn.toNat (mb.sc.getD cn.toNat 0) tr.ids)).tt), .int .u64 (l3 ((col cn.toNat (mb.sc.getD cn.toNat 0) tr.ids)).tt), .int .u64 (l4 ((col cn.toNat (mb.sc.getD cn.toNat 0) tr.ids)).tt), .bool ((col cn.toNat (mb.sc.getD cn.toNat 0) tr.ids)).so, .bool ((col cn.toNat (mb.sc.getD cn.toNat 0) tr.ids)).mn.b, .int .u64 (l0 ((col cn.toNat (mb.sc.getD cn.toNat 0) tr.ids)).mn.n), .int .u64 (l1 ((col cn.toNat (mb.sc.getD cn.toNat 0) tr.ids)).mn.n), .int .u64 (l2 ((col cn.toNat (mb.sc.getD cn.toNat 0) tr.ids)).mn.n), .int .u64 (l3 ((col cn.toNat (mb.sc.getD cn.toNat 0) tr.ids)).mn.n), .int .i64 ((col cn.toNat (mb.sc.getD cn.toNat 0) tr.ids)).mn.s, .bool ((col cn.toNat (mb.sc.getD cn.toNat 0) tr.ids)).mx.b, .int .u64 (l0 ((col cn.toNat (mb.sc.getD cn.toNat 0) tr.ids)).mx.n), .int .u64 (l1 ((col cn.toNat (mb.sc.getD cn.toNat 0) tr.ids)).mx.n), .int .u64 (l2 ((col cn.toNat (mb.sc.getD cn.toNat 0) tr.ids)).mx.n), .int .u64 (l3 ((col cn.toNat (mb.sc.getD cn.toNat 0) tr.ids)).mx.n), .int .i64 ((col cn.toNat (mb.sc.getD cn.toNat 0) tr.ids)).mx.s]) rfl rfl (fun _ _ => by kernel_rfl) (sum_o hS hsum) rfl ?_
 intro w6 hq
 replace Q1 := Q1.mo hq
 replace hS := hS.mo hq
 replace hM := hM.mo hq
 replace M := M.trans hq
 clear hq
 refine wl_stx2 42 (.tmp 4) (.tmp 27) k1 0 #[.int .i64 ((col cn.toNat (mb.sc.getD cn.toNat 0) tr.ids)).r, .int .i64 ((col cn.toNat (mb.sc.getD cn.toNat 0) tr.ids)).f, .int .i64 ((col cn.toNat (mb.sc.getD cn.toNat 0) tr.ids)).k, .int .i64 ((col cn.toNat (mb.sc.getD cn.toNat 0) tr.ids)).d, .int .i64 ((col cn.toNat (mb.sc.getD cn.toNat 0) tr.ids)).e, .int .u64 (l0 ((col cn.toNat (mb.sc.getD cn.toNat 0) tr.ids)).tt), .int .u64 (l1 ((col cn.toNat (mb.sc.getD cn.toNat 0) tr.ids)).tt), .int .u64 (l2 ((col cn.toNat (mb.sc.getD cn.toNat 0) tr.ids)).tt), .int .u64 (l3 ((col cn.toNat (mb.sc.getD cn.toNat 0) tr.ids)).tt), .int .u64 (l4 ((col cn.toNat (mb.sc.getD cn.toNat 0) tr.ids)).tt), .bool ((col cn.toNat (mb.sc.getD cn.toNat 0) tr.ids)).so, .bool ((col cn.toNat (mb.sc.getD cn.toNat 0) tr.ids)).mn.b, .int .u64 (l0 ((col cn.toNat (mb.sc.getD cn.toNat 0) tr.ids)).mn.n), .int .u64 (l1 ((col cn.toNat (mb.sc.getD cn.toNat 0) tr.ids)).mn.n), .int .u64 (l2 ((col cn.toNat (mb.sc.getD cn.toNat 0) tr.ids)).mn.n), .int .u64 (l3 ((col cn.toNat (mb.sc.getD cn.toNat 0) tr.ids)).mn.n), .int .i64 ((col cn.toNat (mb.sc.getD cn.toNat 0) tr.ids)).mn.s, .bool ((col cn.toNat (mb.sc.getD cn.toNat 0) tr.ids)).mx.b, .int .u64 (l0 ((col cn.toNat (mb.sc.getD cn.toNat 0) tr.ids)).mx.n), .int .u64 (l1 ((col cn.toNat (mb.sc.getD cn.toNat 0) tr.ids)).mx.n), .int .u64 (l2 ((col cn.toNat (mb.sc.getD cn.toNat 0) tr.ids)).mx.n), .int .u64 (l3 ((col cn.toNat (mb.sc.getD cn.toNat 0) tr.ids)).mx.n), .int .i64 ((col cn.toNat (mb.sc.getD cn.toNat 0) tr.ids)).mx.s] _ [.int .i64 ((col cn.toNat (mb.sc.getD cn.toNat 0) tr.ids)).r, .int .i64 ((col cn.toNat (mb.sc.getD cn.toNat 0) tr.ids)).f, .int .i64 ((col cn.toNat (mb.sc.getD cn.toNat 0) tr.ids)).k, .int .i64 ((col cn.toNat (mb.sc.getD cn.toNat 0) tr.ids)).d, .int .i64 ((col cn.toNat (mb.sc.getD cn.toNat 0) tr.ids)).e, .int .u64 (l0 ((col cn.toNat (mb.sc.getD cn.toNat 0) tr.ids)).tt), .int .u64 (l1 ((col cn.toNat (mb.sc.getD cn.toNat 0) tr.ids)).tt), .int .u64 (l2 ((col cn.toNat (mb.sc.getD cn.toNat 0) tr.ids)).tt), .int .u64 (l3 ((col cn.toNat (mb.sc.getD cn.toNat 0) tr.ids)).tt), .int .u64 (l4 ((col cn.toNat (mb.sc.getD cn.toNat 0) tr.ids)).tt), .bool ((col cn.toNat (mb.sc.getD cn.toNat 0) tr.ids)).so, .bool ((col cn.toNat (mb.sc.getD cn.toNat 0) tr.ids)).mn.b, .int .u64 (l0 ((col cn.toNat (mb.sc.getD cn.toNat 0) tr.ids)).mn.n), .int .u64 (l1 ((col cn.toNat (mb.sc.getD cn.toNat 0) tr.ids)).mn.n), .int .u64 (l2 ((col cn.toNat (mb.sc.getD cn.toNat 0) tr.ids)).mn.n), .int .u64 (l3 ((col cn.toNat (mb.sc.getD cn.toNat 0) tr.ids)).mn.n), .int .i64 ((col cn.toNat (mb.sc.getD cn.toNat 0) tr.ids)).mn.s, .bool ((col cn.toNat (mb.sc.getD cn.toNat 0) tr.ids)).mx.b, .int .u64 (l0 ((col cn.toNat (mb.sc.getD cn.toNat 0) tr.ids)).mx.n), .int .u64 (l1 ((col cn.toNat (mb.sc.getD cn.toNat 0) tr.ids)).mx.n), .int .u64 (l2 ((col cn.toNat (mb.sc.getD cn.toNat 0) tr.ids)).mx.n), .int .u64 (l3 ((col cn.toNat (mb.sc.getD cn.toNat 0) tr.ids)).mx.n), .int .i64 ((col cn.toNat (mb.sc.getD cn.toNat 0) tr.ids)).mx.s] Q1 rfl rfl rfl rfl rfl zs42 rfl rfl rfl ?_
 intro w7 hT Qn
 replace Q1 := Qn
 have hK := Mk.st1 hT
 replace hM := hM.mk hK (Ne.symm nm_k1)
 replace hS := hS.kept hK (fun j e q => nd_k1 (q ▸ e)) (fun b hb q => ns_k1 b hb q)
 replace M := M.tr hK (fun j hj e => absurd e (by omega))
 clear hT hK Qn
 refine wl_m (.const (.int .i64 (0))) (.int .i64 (0)) ?_
 refine w_nil (xn_then (w_ret ?_))
 exact w_ret2 _ _ (.agg #[.int .i64 ((col cn.toNat (mb.sc.getD cn.toNat 0) tr.ids)).r, .int .i64 ((col cn.toNat (mb.sc.getD cn.toNat 0) tr.ids)).f, .int .i64 ((col cn.toNat (mb.sc.getD cn.toNat 0) tr.ids)).k, .int .i64 ((col cn.toNat (mb.sc.getD cn.toNat 0) tr.ids)).d, .int .i64 ((col cn.toNat (mb.sc.getD cn.toNat 0) tr.ids)).e, .int .u64 (l0 ((col cn.toNat (mb.sc.getD cn.toNat 0) tr.ids)).tt), .int .u64 (l1 ((col cn.toNat (mb.sc.getD cn.toNat 0) tr.ids)).tt), .int .u64 (l2 ((col cn.toNat (mb.sc.getD cn.toNat 0) tr.ids)).tt), .int .u64 (l3 ((col cn.toNat (mb.sc.getD cn.toNat 0) tr.ids)).tt), .int .u64 (l4 ((col cn.toNat (mb.sc.getD cn.toNat 0) tr.ids)).tt), .bool ((col cn.toNat (mb.sc.getD cn.toNat 0) tr.ids)).so, .bool ((col cn.toNat (mb.sc.getD cn.toNat 0) tr.ids)).mn.b, .int .u64 (l0 ((col cn.toNat (mb.sc.getD cn.toNat 0) tr.ids)).mn.n), .int .u64 (l1 ((col cn.toNat (mb.sc.getD cn.toNat 0) tr.ids)).mn.n), .int .u64 (l2 ((col cn.toNat (mb.sc.getD cn.toNat 0) tr.ids)).mn.n), .int .u64 (l3 ((col cn.toNat (mb.sc.getD cn.toNat 0) tr.ids)).mn.n), .int .i64 ((col cn.toNat (mb.sc.getD cn.toNat 0) tr.ids)).mn.s, .bool ((col cn.toNat (mb.sc.getD cn.toNat 0) tr.ids)).mx.b, .int .u64 (l0 ((col cn.toNat (mb.sc.getD cn.toNat 0) tr.ids)).mx.n), .int .u64 (l1 ((col cn.toNat (mb.sc.getD cn.toNat 0) tr.ids)).mx.n), .int .u64 (l2 ((col cn.toNat (mb.sc.getD cn.toNat 0) tr.ids)).mx.n), .int .u64 (l3 ((col cn.toNat (mb.sc.getD cn.toNat 0) tr.ids)).mx.n), .int .i64 ((col cn.toNat (mb.sc.getD cn.toNat 0) tr.ids)).mx.s]) (.int .i64 (0)) rfl ⟨k1, rfl, (run_row Q1 42 0 23 _ rfl Try.underlying42 rfl zs42)⟩ rfl ⟨((lk) + cnt [tr.p]), rfl, h.lkd ⟨R, tr.p, ⟨hS, hAp, hC, hR, hn⟩⟩ hM (by omega), by omega, by omega, M⟩
end
end G
end Go.Proofs.Ythfemlhmnjfjiaa
/-
 Parts of a column.
-/
namespace Go.Proofs.Ythfemlhmnjfjiaa
open Go.RowKit
namespace G
theorem cols_gd {c : Nat} {s : Int} {L : List Py} (h : ∀ y ∈ L, y.ok) : ∀ S ∈ L.map (fun y => ofs (y.vs.getD c v0) s), Gd s S ∧ S.ok := fun S hS => by
 obtain ⟨z, hz, rfl⟩ := List.mem_map.1 hS
 exact ⟨(ofs_n _ ((h z hz).at c) s).2.1, (ofs_n _ ((h z hz).at c) s).1⟩
theorem col_app {c : Nat} {s : Int} {A B : List Py} (hA : ∀ z ∈ A, z.ok) (hB : ∀ z ∈ B, z.ok) : col c s (A ++ B) = jn (col c s A) (col c s B) := by
 unfold col
 rw [List.map_append, fold_cut _ _ (fun S h => (cols_gd hA S h).1) (fun S h => (cols_gd hB S h).1)]
theorem col_ok {c : Nat} {s : Int} {L : List Py} (h : ∀ y ∈ L, y.ok) : (col c s L).ok := fold_ok _ sm0_ok (fun S hS => (cols_gd h S hS).2)
theorem col_one {c : Nat} {s : Int} {y : Py} (h : y.ok) : col c s [y] = ofs (y.vs.getD c v0) s := jn_0l (ofs_n _ (h.at c) s).2.1
def prt (c : Nat) (s a b : Int) (L : List Py) : Sm := col c s ((L.take b.toNat).drop a.toNat)
section
variable {c : Nat} {s a b : Int} {L A B : List Py} {y : Py}
theorem cut_ok (h : ∀ y ∈ L, y.ok) (m n : Nat) : ∀ y ∈ (L.take m).drop n, y.ok := fun y hy => h y (List.mem_of_mem_take (List.mem_of_mem_drop hy))
theorem prt_gd (h : ∀ y ∈ L, y.ok) : Gd s (prt c s a b L) := col_gd (cut_ok h _ _)
theorem prt_ok (h : ∀ y ∈ L, y.ok) : (prt c s a b L).ok := col_ok (cut_ok h _ _)
theorem prt_all (h1 : a ≤ 0) (h2 : (L.length : Int) ≤ b) : prt c s a b L = col c s L := by
 unfold prt
 rw [show a.toNat = 0 by omega, List.drop_zero, List.take_of_length_le (by omega)]
theorem prt_lo (h : b ≤ 0) : prt c s a b L = sm0 := by
 unfold prt
 rw [show b.toNat = 0 by omega, List.take_zero, List.drop_nil]; rfl
theorem prt_hi (h : (L.length : Int) ≤ a) : prt c s a b L = sm0 := by
 unfold prt
 rw [List.drop_eq_nil_of_le (by rw [List.length_take]; omega)]; rfl
theorem j2 {S U : Sm} (h : Gd s S) : [S, U].foldl jn sm0 = jn S U := by
 show jn (jn sm0 S) U = _
 rw [jn_0l h]
theorem cut_lo (m n : Nat) (h : m ≤ A.length) : ((A ++ y :: B).take m).drop n = (A.take m).drop n ++ (B.take (m - A.length - 1)).drop (n - A.length - 1) := by
 rw [List.take_append_of_le_length h, show m - A.length - 1 = 0 by omega, List.take_zero, List.drop_nil, List.append_nil]
theorem cut_hi (m n : Nat) (h : A.length < m) (h2 : A.length < n) : ((A ++ y :: B).take m).drop n = (A.take m).drop n ++ (B.take (m - A.length - 1)).drop (n - A.length - 1) := by
 rw [List.take_append, List.take_of_length_le (by omega), List.drop_append, List.drop_eq_nil_of_le (by omega), List.nil_append, List.nil_append]
 obtain ⟨m1, rfl⟩ : ∃ q, m = A.length + 1 + q := ⟨m - A.length - 1, by omega⟩
 obtain ⟨n1, rfl⟩ : ∃ q, n = A.length + 1 + q := ⟨n - A.length - 1, by omega⟩
 rw [show A.length + 1 + m1 - A.length = m1 + 1 by omega, show A.length + 1 + n1 - A.length = n1 + 1 by omega, List.take_succ_cons, List.drop_succ_cons]
 rfl
theorem cut_mid (m n : Nat) (h : A.length < m) (h2 : n ≤ A.length) : ((A ++ y :: B).take m).drop n = (A.take m).drop n ++ [y] ++ (B.take (m - A.length - 1)).drop (n - A.length - 1) := by
 rw [List.take_append, List.take_of_length_le (by omega), List.drop_append, show n - A.length = 0 by omega]
 obtain ⟨m1, rfl⟩ : ∃ q, m = A.length + 1 + q := ⟨m - A.length - 1, by omega⟩
 rw [show A.length + 1 + m1 - A.length = m1 + 1 by omega, List.take_succ_cons]
 simp
theorem prt_mid {z : Int} (hz : z = A.length) (hA : ∀ z ∈ A, z.ok) (hy : y.ok) (hB : ∀ z ∈ B, z.ok) (h1 : a ≤ z) (h2 : z < b) : [[prt c s a b A, ofs (y.vs.getD c v0) s].foldl jn sm0, prt c s (a - z - 1) (b - z - 1) B].foldl jn sm0 = prt c s a b (A ++ y :: B) := by
 have ga := prt_gd (c := c) (s := s) (a := a) (b := b) hA
 have gy := (ofs_n _ (hy.at c) s).2.1
 rw [j2 ga, j2 (jn_gd ga gy)]
 unfold prt
 rw [cut_mid b.toNat a.toNat (by omega) (by omega), col_app (fun x hx => by
  rcases List.mem_append.1 hx with h | h
  ·exact cut_ok hA _ _ x h
  ·rw [List.mem_singleton.1 h]; exact hy) (cut_ok hB _ _), col_app (cut_ok hA _ _) (fun x hx => by rw [List.mem_singleton.1 hx]; exact hy), col_one hy, show (b - z - 1).toNat = b.toNat - A.length - 1 by omega, show (a - z - 1).toNat = a.toNat - A.length - 1 by omega]
theorem prt_out {z : Int} (hz : z = A.length) (hA : ∀ z ∈ A, z.ok) (hB : ∀ z ∈ B, z.ok) (h : z < a ∨ b ≤ z) : [prt c s a b A, prt c s (a - z - 1) (b - z - 1) B].foldl jn sm0 = prt c s a b (A ++ y :: B) := by
 have ga := prt_gd (c := c) (s := s) (a := a) (b := b) hA
 rw [j2 ga]
 unfold prt
 have e : ((A ++ y :: B).take b.toNat).drop a.toNat = (A.take b.toNat).drop a.toNat ++ (B.take (b.toNat - A.length - 1)).drop (a.toNat - A.length - 1) := by
  by_cases hb : b.toNat ≤ A.length
  ·exact cut_lo _ _ hb
  ·exact cut_hi _ _ (by omega) (by omega)
 rw [e, col_app (cut_ok hA _ _) (cut_ok hB _ _), show (b - z - 1).toNat = b.toNat - A.length - 1 by omega, show (a - z - 1).toNat = a.toNat - A.length - 1 by omega]
end
theorem bs47b (A B : Sm) (w : World) : (Instr.buildSlice 47 2 #[(0, smv A), (1, smv B)]).run Try.prog w = .ok (.slice (some ⟨w.heap.size, 0, none⟩) 2 2) (w.alloc (.cells (sml A ++ sml B).toArray 42)) := by kernel_rfl
theorem ss2 (A B : Sm) (w : World) : SS (w.alloc (.cells (sml A ++ sml B).toArray 42)) (some ⟨w.heap.size, 0, none⟩) [A, B] := by
 have hA := At.new w (sml A ++ sml B).toArray 42
 have hl := hA.2.2
 intro i S hi
 refine ⟨w.heap.size, 0, rfl, hl, fun j v hv => ?_⟩
 have hr := hA.1
 have hj : j < 23 := (List.getElem?_eq_some_iff.1 hv).1
 have key : (sml A ++ sml B)[i * 23 + j]? = some v := by
  match i, hi with
  | 0, hi => cases hi; rw [List.getElem?_append_left (by rw [sml_len]; omega), ← hv]; congr 1; omega
  | 1, hi => cases hi; rw [List.getElem?_append_right (by rw [sml_len]; omega), sml_len, ← hv]; congr 1; omega
  | i + 2, hi => simp at hi
 have := hr (i * 23 + j) v key
 rw [show 0 + i * 23 + j = 0 + (i * 23 + j) by omega]
 exact this
section
variable {o : Oper} {n : Nat} {l : List (Nat × Value)} {w : World} {ops : Array Oper} {rest : List Oper} {Q : Exit → Act → World → Prop}
theorem wl_bs47b (x y : Operand) (A B : Sm) (ho : o.op = .buildSlice 47 2 #[(0, x), (1, y)]) (hx : evl n l x = smv A) (hy : evl n l y = smv B) (hg : wnt n l ops o = true)
  (hk : ∀ k w', w.heap.size = k → Mo w w' → SS w' (some ⟨k, 0, none⟩) [A, B] → WL Try.prog ops Q rest n (ext l o.dst (.slice (some ⟨k, 0, none⟩) 2 2)) w') : WL Try.prog ops Q (o :: rest) n l w :=
 ⟨l_step hg (o_val (.slice (some ⟨w.heap.size, 0, none⟩) 2 2) (w' := w.alloc (.cells (sml A ++ sml B).toArray 42)) (by
  have h := bs47b A B w
  simp only [execOp, ho, List.map_toArray, List.map_cons, List.map_nil, hx, hy, Sem.run_bind, h, Result.andThen_ok]
  simp) (hk _ _ rfl ((Mo.refl _).alloc _ _) (ss2 A B w)).out)⟩
end
theorem leI {a b : Int} {r : Bool} (h : decide (a ≤ b) = r) (x y : Operand) (w : World) : (do eqGuard .leq 3 x y (.int .i64 a) (.int .i64 b); binOp .leq 3 (.int .i64 a) (.int .i64 b)).run Try.prog w = .ok (.bool r) w := by
 subst h; kernel_rfl
end G
end Go.Proofs.Ythfemlhmnjfjiaa
/-
 part: a column's summary of some rows.
-/
namespace Go.Proofs.Ythfemlhmnjfjiaa
open Go.RowKit
namespace G
theorem two_ok {A B : Sm} (ha : A.ok) (hb : B.ok) : ∀ T ∈ [A, B], T.ok := fun T hT => by
 simp only [List.mem_cons, List.mem_nil_iff, or_false] at hT
 rcases hT with rfl | rfl
 ·exact ha
 ·exact hb
theorem li5 {a b c d e f g i j k : Value} (h : a = b) (l : c = d) (m : e = f) (p : g = i) (q : j = k) : [a, c, e, g, j] = [b, d, f, i, k] := by rw [h, l, m, p, q]
def pbd (a b s h : Int) (lk lk' : Int) : Prop := lk' ≤ lk + 1 + 4 * h ∧ (a ≤ 0 ∨ s ≤ b → lk' ≤ lk + 1 + 2 * h) ∧ (b ≤ 0 ∨ s ≤ a ∨ (a ≤ 0 ∧ s ≤ b) → lk' ≤ lk + 1)
section
variable {D : Nat → Prop} {t : Nat} {mb : Hd} {R : Mp} {root : Option Nat} {c : Nat}
theorem prt_nil (c : Nat) (s a b : Int) : prt c s a b [] = sm0 := by unfold prt; rw [List.take_nil, List.drop_nil]; rfl
theorem cnt1 (k : Nat) : cnt [some k] = 1 := rfl
set_option maxHeartbeats 8000000 in
theorem part_n : ∀ (tr : T) {w : World} {u : Option Nat} {lk fa ta : Int}, c < mb.sc.length → HS D w t mb R root lk → Rep mb.sc R u tr → tr.ok → tr.sz ≤ 1024 → (-1000000 + tr.sz ≤ fa ∧ fa ≤ 1000000) → (-1000000 + tr.sz ≤ ta ∧ ta ≤ 1000000) → 0 ≤ lk → lk + 10 * tr.sz ≤ 4000000000000000000 →
  Calls Try.prog 33 #[pt t 0, pp tr.p, .int .i64 (c : Int), .int .i64 fa, .int .i64 ta] w fun e w' => e = .returned (smv (prt c (mb.sc.getD c 0) fa ta tr.ids)) ∧ ∃ lk', HS D w' t mb R root lk' ∧ lk ≤ lk' ∧ pbd fa ta tr.sz tr.ht lk lk' ∧ Mk D w w'
 | .e, w, u, lk, fa, ta, hc, hS, hr, hok, hsz, hf, ht, hl0, hlk => by
  have hDlt : ∀ j, D j → j < w.heap.size := fun j e => hS.lt e
  have hslt : ∀ b, ob mb.h = some b → b < w.heap.size := fun b e => hS.sc.lt e
  simp only [T.sz] at hlk
  refine w_enter 99 Try.func33 Try.ntmps33 rfl rfl ?_
  have M : Mk D w w := Mk.refl _ _
  refine w_seq (w_reg ?_)
  refine wl_alloc 42 #[.int .i64 0, .int .i64 0, .int .i64 0, .int .i64 0, .int .i64 0, .int .u64 0, .int .u64 0, .int .u64 0, .int .u64 0, .int .u64 0, .bool false, .bool false, .int .u64 0, .int .u64 0, .int .u64 0, .int .u64 0, .int .i64 0, .bool false, .int .u64 0, .int .u64 0, .int .u64 0, .int .u64 0, .int .i64 0] rfl (fun _ => by kernel_rfl) rfl ?_
  intro k1 w1 hk9 hz hq Q1
  have hMs := M.size
  have N_k1 : w.heap.size ≤ k1 := by omega
  have nd_k1 : ¬ D k1 := fun e => by have := hDlt _ e; omega
  have ns_k1 : ∀ b, ob mb.h = some b → b ≠ k1 := fun b hb => by have := hslt b hb; omega
  replace hS := hS.mo hq
  replace M := M.trans hq
  clear hk9 hz hq hMs
  refine w_nil (xn_then (w_seq (w_reg ?_)))
  refine wl_m (.tmp 0) (pt t 0) ?_
  refine wl_m (.tmp 1) (pp none) ?_
  refine wl_bsl [(0, (.tmp 14))] [pp none] 1 rfl rfl (bs1 none) rfl ?_
  intro g2 w2 hk hz hq Q2
  have nd_g2 : ¬ D g2 := fun e => by have := hS.lt e; omega
  replace Q1 := Q1.mo hq
  replace hS := hS.mo hq
  replace M := M.trans hq
  clear hk hz hq
  refine wl_callg 34 [(.tmp 13), (.tmp 15)] _ [pt t 0, .slice (some ⟨g2, 0, none⟩) 1 1] (.tuple #[]) rfl rfl (fun _ _ => by kernel_rfl) (look_n [none] g2 hS Q2 nd_g2 (by simp only [List.length_cons, List.length_nil]; omega)) rfl ?_
  intro w3 hF
  replace Q1 := hF.2.at Q1 nd_k1
  have hc1 := cnt_le [none]
  simp only [List.length_cons, List.length_nil] at hc1
  obtain ⟨hS2, hM2⟩ := hF
  replace hS := hS2
  replace M := M.same hM2
  clear hS2 hM2 Q2 nd_g2
  refine w_nil (xn_then (w_seq (w_seq (w_reg ?_))))
  refine wl_m (.tmp 1) (pp none) ?_
  refine wl_b .eql 65 (.tmp 17) (.const (.pointer none)) (pp none) (pp none) (.bool true) (eqP none _ _ _) ?_
  refine wl_m (.tmp 18) (.bool true) ?_
  refine wl_skip rfl (wl_skip rfl ?_)
  refine wl_pick (.tmp 19) (.const (.bool true)) (.tmp 21) true (.bool true) (fun _ => rfl) rfl rfl rfl ?_
  refine wl_m (.tmp 22) (.bool true) ?_
  refine wl_skip rfl (wl_skip rfl (wl_skip rfl (wl_skip rfl (wl_skip rfl (wl_skip rfl ?_)))))
  refine wl_pick (.tmp 23) (.const (.bool true)) (.tmp 29) true (.bool true) (fun _ => rfl) rfl rfl rfl ?_
  refine w_nil (xn_then (w_condT rfl (w_seq (w_reg ?_))))
  refine wl_call 49 [(.const (.slice none 0 0))] _ [.slice none 0 0] (smv sm0) rfl rfl (fun _ _ => by kernel_rfl) (join_n [] none 0 (fun _ h => by cases h) (fun _ _ h => by cases h) (by decide)) rfl ?_
  intro w4 hq
  replace Q1 := Q1.mo hq
  replace hS := hS.mo hq
  replace M := M.trans hq
  clear hq
  refine wl_stx2 42 (.tmp 10) (.tmp 31) k1 0 ((sml sm0).toArray) _ (sml sm0) Q1 rfl rfl rfl rfl rfl zs42 rfl rfl rfl ?_
  intro w5 hT Qn
  replace Q1 := Qn
  have hK := Mk.st1 hT
  replace hS := hS.kept hK (fun j e q => nd_k1 (q ▸ e)) (fun b hb q => ns_k1 b hb q)
  replace M := M.tr hK (fun j hj e => absurd e (by omega))
  clear hT hK Qn
  refine w_nil (xn_then (w_ret (xr_then ?_)))
  exact w_ret1 _ (smv sm0) rfl ⟨k1, rfl, (run_row Q1 42 0 23 (sml sm0) rfl Try.underlying42 rfl zs42)⟩ ⟨by rw [show prt c (mb.sc.getD c 0) fa ta T.e.ids = sm0 from prt_nil _ _ _ _], _, hS, by show lk ≤ lk + 0; omega, by unfold pbd; show lk + 0 ≤ _ ∧ (_ → lk + 0 ≤ _) ∧ (_ → lk + 0 ≤ _); refine ⟨by omega, fun _ => by omega, fun _ => by omega⟩, M⟩
 | .n k i s lL r, w, u, lk, fa, ta, hc, hS, hr, hok, hsz, hf, ht, hl0, hlk => by
  have hDlt : ∀ j, D j → j < w.heap.size := fun j e => hS.lt e
  have hslt : ∀ b, ob mb.h = some b → b < w.heap.size := fun b e => hS.sc.lt e
  obtain ⟨hd1, hk⟩ := hr.1
  have hss := hok.1
  have hln := T.sz_nn lL
  have hrn := T.sz_nn r
  have hlz := T.sz_ids lL
  have hrz := T.sz_ids r
  have hhl := T.ht_le lL
  have hhr := T.ht_le r
  have hz9 : ((lL.ids ++ i :: r.ids).length : Int) = s := by rw [List.length_append, List.length_cons]; omega
  have hh9 : (T.n k i s lL r).ht = 1 + max lL.ht r.ht := rfl
  have hs9 : (T.n k i s lL r).sz = 1 + lL.sz + r.sz := rfl
  have hokl := Rep.oks hS hr.2.1
  have hokr := Rep.oks hS hr.2.2
  have hoki : i.ok := (hS.sv k _ hk).2.2
  have hcl : c < (agg mb.sc (lL.ids ++ i :: r.ids)).length := by unfold agg; simp; exact hc
  have hvl : i.vs.length = mb.sc.length := (hS.sv k _ hk).2.1
  obtain ⟨Sn, hSn⟩ : ∃ X, X = col c (mb.sc.getD c 0) (lL.ids ++ i :: r.ids) := ⟨_, rfl⟩
  obtain ⟨So, hSo⟩ : ∃ X, X = ofs (i.vs.getD c v0) (mb.sc.getD c 0) := ⟨_, rfl⟩
  have okSo : So.ok := by rw [hSo]; exact (ofs_n _ (hoki.at c) _).1
  have hcv : i.vs[c]? = some (i.vs.getD c v0) := by rw [List.getD_eq_getElem?_getD, List.getElem?_eq_getElem (by omega)]; rfl
  have hsc : mb.sc[c]? = some (mb.sc.getD c 0) := by rw [List.getD_eq_getElem?_getD, List.getElem?_eq_getElem hc]; rfl
  rw [hs9] at hf ht hlk hsz
  have hc1 := cnt1 k
  refine w_enter 99 Try.func33 Try.ntmps33 rfl rfl ?_
  have M : Mk D w w := Mk.refl _ _
  refine w_seq (w_reg ?_)
  refine wl_alloc 42 #[.int .i64 0, .int .i64 0, .int .i64 0, .int .i64 0, .int .i64 0, .int .u64 0, .int .u64 0, .int .u64 0, .int .u64 0, .int .u64 0, .bool false, .bool false, .int .u64 0, .int .u64 0, .int .u64 0, .int .u64 0, .int .i64 0, .bool false, .int .u64 0, .int .u64 0, .int .u64 0, .int .u64 0, .int .i64 0] rfl (fun _ => by kernel_rfl) rfl ?_
  intro k1 w1 hk9 hz hq Q1
  have hMs := M.size
  have N_k1 : w.heap.size ≤ k1 := by omega
  have nd_k1 : ¬ D k1 := fun e => by have := hDlt _ e; omega
  have ns_k1 : ∀ b, ob mb.h = some b → b ≠ k1 := fun b hb => by have := hslt b hb; omega
  replace hS := hS.mo hq
  replace M := M.trans hq
  clear hk9 hz hq hMs
  refine w_nil (xn_then (w_seq (w_reg ?_)))
  refine wl_m (.tmp 0) (pt t 0) ?_
  refine wl_m (.tmp 1) (pt k 0) ?_
  refine wl_bsl [(0, (.tmp 14))] [pp (some k)] 1 rfl rfl (bs1 (some k)) rfl ?_
  intro g2 w2 hk hz hq Q2
  have nd_g2 : ¬ D g2 := fun e => by have := hS.lt e; omega
  replace Q1 := Q1.mo hq
  replace hS := hS.mo hq
  replace M := M.trans hq
  clear hk hz hq
  refine wl_callg 34 [(.tmp 13), (.tmp 15)] _ [pt t 0, .slice (some ⟨g2, 0, none⟩) 1 1] (.tuple #[]) rfl rfl (fun _ _ => by kernel_rfl) (look_n [(some k)] g2 hS Q2 nd_g2 (by simp only [List.length_cons, List.length_nil]; omega)) rfl ?_
  intro w3 hF
  replace Q1 := hF.2.at Q1 nd_k1
  have hc1 := cnt_le [(some k)]
  simp only [List.length_cons, List.length_nil] at hc1
  obtain ⟨hS2, hM2⟩ := hF
  replace hS := hS2
  replace M := M.same hM2
  clear hS2 hM2 Q2 nd_g2
  refine w_nil (xn_then (w_seq (w_seq ?_)))
  cases hf0 : decide (ta ≤ 0) with
  | true =>
   have hf0p := of_decide_eq_true hf0
   refine w_reg ?_
   refine wl_m (.tmp 1) (pt k 0) ?_
   refine wl_b .eql 65 (.tmp 17) (.const (.pointer none)) (pt k 0) (pp none) (.bool false) (eqP (some k) _ _ _) ?_
   refine wl_m (.tmp 18) (.bool false) ?_
   refine wl_m (.tmp 4) (.int .i64 (ta)) ?_
   refine wl_b .leq 3 (.tmp 20) (.const (.int .i64 (0))) (.int .i64 (ta)) (.int .i64 (0)) (.bool true) (leI hf0 _ _ _) ?_
   refine wl_pick (.tmp 19) (.const (.bool true)) (.tmp 21) false (.bool true) (fun _ => rfl) rfl rfl rfl ?_
   refine wl_m (.tmp 22) (.bool true) ?_
   refine wl_skip rfl (wl_skip rfl (wl_skip rfl (wl_skip rfl (wl_skip rfl (wl_skip rfl ?_)))))
   refine wl_pick (.tmp 23) (.const (.bool true)) (.tmp 29) true (.bool true) (fun _ => rfl) rfl rfl rfl ?_
   refine w_nil (xn_then (w_condT rfl (w_seq (w_reg ?_))))
   refine wl_call 49 [(.const (.slice none 0 0))] _ [.slice none 0 0] (smv sm0) rfl rfl (fun _ _ => by kernel_rfl) (join_n [] none 0 (fun _ h => by cases h) (fun _ _ h => by cases h) (by decide)) rfl ?_
   intro w4 hq
   replace Q1 := Q1.mo hq
   replace hS := hS.mo hq
   replace M := M.trans hq
   clear hq
   refine wl_stx2 42 (.tmp 10) (.tmp 31) k1 0 ((sml sm0).toArray) _ (sml sm0) Q1 rfl rfl rfl rfl rfl zs42 rfl rfl rfl ?_
   intro w5 hT Qn
   replace Q1 := Qn
   have hK := Mk.st1 hT
   replace hS := hS.kept hK (fun j e q => nd_k1 (q ▸ e)) (fun b hb q => ns_k1 b hb q)
   replace M := M.tr hK (fun j hj e => absurd e (by omega))
   clear hT hK Qn
   refine w_nil (xn_then (w_ret (xr_then ?_)))
   exact w_ret1 _ (smv sm0) rfl ⟨k1, rfl, (run_row Q1 42 0 23 (sml sm0) rfl Try.underlying42 rfl zs42)⟩ ⟨by show _ = Ending.returned (smv (prt c (mb.sc.getD c 0) fa ta (lL.ids ++ i :: r.ids))); rw [(show prt c (mb.sc.getD c 0) fa ta (lL.ids ++ i :: r.ids) = sm0 from (prt_lo (by have := of_decide_eq_true hf0; omega)))], _, hS, by have := of_decide_eq_true hf0; omega, by have := of_decide_eq_true hf0; unfold pbd at *; refine ⟨by omega, fun _ => by omega, fun _ => by omega⟩, M⟩
  | false =>
   have hf0p := of_decide_eq_false hf0
   cases hf1 : decide (s ≤ fa) with
   | true =>
    have hf1p := of_decide_eq_true hf1
    refine w_reg ?_
    refine wl_m (.tmp 1) (pt k 0) ?_
    refine wl_b .eql 65 (.tmp 17) (.const (.pointer none)) (pt k 0) (pp none) (.bool false) (eqP (some k) _ _ _) ?_
    refine wl_m (.tmp 18) (.bool false) ?_
    refine wl_m (.tmp 4) (.int .i64 (ta)) ?_
    refine wl_b .leq 3 (.tmp 20) (.const (.int .i64 (0))) (.int .i64 (ta)) (.int .i64 (0)) (.bool false) (leI hf0 _ _ _) ?_
    refine wl_pick (.tmp 19) (.const (.bool true)) (.tmp 21) false (.bool false) (fun _ => rfl) rfl rfl rfl ?_
    refine wl_m (.tmp 22) (.bool false) ?_
    refine wl_m (.tmp 3) (.int .i64 (fa)) ?_
    refine wl_m (.tmp 1) (pt k 0) ?_
    refine wl_nc (.tmp 25) k 0 rfl rfl rfl ?_
    refine wl_f 93 3 (.tmp 26) (pt k 0) (pt k 5) ?_
    refine wl_l 3 (.tmp 27) (pt k 5) (.int .i64 (s)) (run_one (hS.rc k _ hk) 3 5 rfl Try.underlying3 rfl) ?_
    refine wl_b .geq 3 (.tmp 24) (.tmp 28) (.int .i64 (fa)) (.int .i64 (s)) (.bool true) (geI hf1 _ _ _) ?_
    refine wl_pick (.tmp 23) (.const (.bool true)) (.tmp 29) false (.bool true) (fun _ => rfl) rfl rfl rfl ?_
    refine w_nil (xn_then (w_condT rfl (w_seq (w_reg ?_))))
    refine wl_call 49 [(.const (.slice none 0 0))] _ [.slice none 0 0] (smv sm0) rfl rfl (fun _ _ => by kernel_rfl) (join_n [] none 0 (fun _ h => by cases h) (fun _ _ h => by cases h) (by decide)) rfl ?_
    intro w4 hq
    replace Q1 := Q1.mo hq
    replace hS := hS.mo hq
    replace M := M.trans hq
    clear hq
    refine wl_stx2 42 (.tmp 10) (.tmp 31) k1 0 ((sml sm0).toArray) _ (sml sm0) Q1 rfl rfl rfl rfl rfl zs42 rfl rfl rfl ?_
    intro w5 hT Qn
    replace Q1 := Qn
    have hK := Mk.st1 hT
    replace hS := hS.kept hK (fun j e q => nd_k1 (q ▸ e)) (fun b hb q => ns_k1 b hb q)
    replace M := M.tr hK (fun j hj e => absurd e (by omega))
    clear hT hK Qn
    refine w_nil (xn_then (w_ret (xr_then ?_)))
    exact w_ret1 _ (smv sm0) rfl ⟨k1, rfl, (run_row Q1 42 0 23 (sml sm0) rfl Try.underlying42 rfl zs42)⟩ ⟨by show _ = Ending.returned (smv (prt c (mb.sc.getD c 0) fa ta (lL.ids ++ i :: r.ids))); rw [(show prt c (mb.sc.getD c 0) fa ta (lL.ids ++ i :: r.ids) = sm0 from (prt_hi (by have := of_decide_eq_false hf0; have := of_decide_eq_true hf1; omega)))], _, hS, by have := of_decide_eq_false hf0; have := of_decide_eq_true hf1; omega, by have := of_decide_eq_false hf0; have := of_decide_eq_true hf1; unfold pbd at *; refine ⟨by omega, fun _ => by omega, fun _ => by omega⟩, M⟩
   | false =>
    have hf1p := of_decide_eq_false hf1
    refine w_reg ?_
    refine wl_m (.tmp 1) (pt k 0) ?_
    refine wl_b .eql 65 (.tmp 17) (.const (.pointer none)) (pt k 0) (pp none) (.bool false) (eqP (some k) _ _ _) ?_
    refine wl_m (.tmp 18) (.bool false) ?_
    refine wl_m (.tmp 4) (.int .i64 (ta)) ?_
    refine wl_b .leq 3 (.tmp 20) (.const (.int .i64 (0))) (.int .i64 (ta)) (.int .i64 (0)) (.bool false) (leI hf0 _ _ _) ?_
    refine wl_pick (.tmp 19) (.const (.bool true)) (.tmp 21) false (.bool false) (fun _ => rfl) rfl rfl rfl ?_
    refine wl_m (.tmp 22) (.bool false) ?_
    refine wl_m (.tmp 3) (.int .i64 (fa)) ?_
    refine wl_m (.tmp 1) (pt k 0) ?_
    refine wl_nc (.tmp 25) k 0 rfl rfl rfl ?_
    refine wl_f 93 3 (.tmp 26) (pt k 0) (pt k 5) ?_
    refine wl_l 3 (.tmp 27) (pt k 5) (.int .i64 (s)) (run_one (hS.rc k _ hk) 3 5 rfl Try.underlying3 rfl) ?_
    refine wl_b .geq 3 (.tmp 24) (.tmp 28) (.int .i64 (fa)) (.int .i64 (s)) (.bool false) (geI hf1 _ _ _) ?_
    refine wl_pick (.tmp 23) (.const (.bool true)) (.tmp 29) false (.bool false) (fun _ => rfl) rfl rfl rfl ?_
    refine w_nil (xn_then (w_condF rfl (w_skip (xn_then ?_))))
    refine w_cut (fun l w1 => look l 0 = pt t 0 ∧ look l 1 = pt k 0 ∧ look l 2 = .int .i64 ((c : Nat) : Int) ∧ look l 3 = .int .i64 (fa) ∧ look l 4 = .int .i64 (ta) ∧ look l 10 = pt k1 0 ∧ ¬ ta ≤ 0 ∧ ¬ s ≤ fa ∧ ¬ (fa ≤ 0 ∧ s ≤ ta) ∧ HS D w1 t mb R root ((lk) + cnt [(some k)]) ∧ At w1 k1 [.int .i64 0, .int .i64 0, .int .i64 0, .int .i64 0, .int .i64 0, .int .u64 0, .int .u64 0, .int .u64 0, .int .u64 0, .int .u64 0, .bool false, .bool false, .int .u64 0, .int .u64 0, .int .u64 0, .int .u64 0, .int .i64 0, .bool false, .int .u64 0, .int .u64 0, .int .u64 0, .int .u64 0, .int .i64 0] ∧ Mk D w w1) ?_ ?_
    ·skip
     clear hS M Q1
     rintro l9 wc ⟨f0, f1, f2, f3, f4, f10, hx1, hx2, hx3, hS, Q1, M⟩
     refine w_seq (w_reg ?_)
     refine wl_mv (.tmp 0) (pt t 0) (fun _ => rfl) f0 rfl ?_
     refine wl_mv (.tmp 1) (pt k 0) (fun _ => rfl) f1 rfl ?_
     refine wl_nc (.tmp 50) k 0 rfl rfl rfl ?_
     refine wl_f 93 2 (.tmp 51) (pt k 0) (pt k 3) ?_
     refine wl_bin (fun x y => Instr.indexAt 91 x y) (.tmp 52) (.const (.int .i64 (0))) (pt k 3) (.int .i64 (0)) (pt k 3) (fun _ => rfl) rfl rfl (by kernel_rfl) rfl ?_
     refine wl_l 65 (.tmp 53) (pt k 3) (pp lL.p) (run_one (hS.rc k _ hk) 65 3 rfl Try.underlying65 rfl) ?_
     refine wl_mv (.tmp 2) (.int .i64 ((c : Nat) : Int)) (fun _ => rfl) f2 rfl ?_
     refine wl_mv (.tmp 3) (.int .i64 (fa)) (fun _ => rfl) f3 rfl ?_
     refine wl_mv (.tmp 4) (.int .i64 (ta)) (fun _ => rfl) f4 rfl ?_
     obtain ⟨Sl, hSl⟩ : ∃ X, X = prt c (mb.sc.getD c 0) fa ta lL.ids := ⟨_, rfl⟩
     have okSl : Sl.ok := by rw [hSl]; exact prt_ok hokl
     refine wl_callg 33 [(.tmp 49), (.tmp 54), (.tmp 55), (.tmp 56), (.tmp 57)] _ [pt t 0, pp lL.p, .int .i64 ((c : Nat) : Int), .int .i64 (fa), .int .i64 (ta)] (smv Sl) rfl rfl (fun _ _ => by kernel_rfl) (by have h9 := part_n lL (fa := fa) (ta := ta) hc hS hr.2.1 hok.2.1 (by omega) ⟨by omega, by omega⟩ ⟨by omega, by omega⟩ (by omega) (by omega); rw [← hSl] at h9; exact h9) rfl ?_
     intro w41 hF
     obtain ⟨lk2, hS2, hl1, hl2, hM2⟩ := hF
     have hl2b := hl2.1
     replace Q1 := hM2.at Q1 nd_k1
     replace hS := hS2
     replace M := M.same hM2
     clear hS2 hM2
     refine wl_alloc 42 #[.int .i64 0, .int .i64 0, .int .i64 0, .int .i64 0, .int .i64 0, .int .u64 0, .int .u64 0, .int .u64 0, .int .u64 0, .int .u64 0, .bool false, .bool false, .int .u64 0, .int .u64 0, .int .u64 0, .int .u64 0, .int .i64 0, .bool false, .int .u64 0, .int .u64 0, .int .u64 0, .int .u64 0, .int .i64 0] rfl (fun _ => by kernel_rfl) rfl ?_
     intro k3 w42 hk9 hz hq Q3
     have hMs := M.size
     have N_k3 : w.heap.size ≤ k3 := by omega
     have nd_k3 : ¬ D k3 := fun e => by have := hDlt _ e; omega
     have ns_k3 : ∀ b, ob mb.h = some b → b ≠ k3 := fun b hb => by have := hslt b hb; omega
     have ne_k1_k3 : k1 ≠ k3 := by have := Q1.lt; omega
     replace Q1 := Q1.mo hq
     replace hS := hS.mo hq
     replace M := M.trans hq
     clear hk9 hz hq hMs
     refine wl_stx2 42 (.tmp 11) (.tmp 58) k3 0 ((sml Sl).toArray) _ (sml Sl) Q3 rfl rfl rfl rfl rfl zs42 rfl rfl rfl ?_
     intro w43 hT Qn
     replace Q3 := Qn
     replace Q1 := hT.other _ _ ne_k1_k3 Q1
     have hK := Mk.st1 hT
     replace hS := hS.kept hK (fun j e q => nd_k3 (q ▸ e)) (fun b hb q => ns_k3 b hb q)
     replace M := M.tr hK (fun j hj e => absurd e (by omega))
     clear hT hK Qn
     refine w_nil (xn_then (w_seq (w_reg ?_)))
     refine wl_mv (.tmp 1) (pt k 0) (fun _ => rfl) f1 rfl ?_
     refine wl_nc (.tmp 59) k 0 rfl rfl rfl ?_
     refine wl_f 93 2 (.tmp 60) (pt k 0) (pt k 3) ?_
     refine wl_bin (fun x y => Instr.indexAt 91 x y) (.tmp 61) (.const (.int .i64 (0))) (pt k 3) (.int .i64 (0)) (pt k 3) (fun _ => rfl) rfl rfl (by kernel_rfl) rfl ?_
     refine wl_l 65 (.tmp 62) (pt k 3) (pp lL.p) (run_one (hS.rc k _ hk) 65 3 rfl Try.underlying65 rfl) ?_
     refine wl_call 46 [(.tmp 63)] _ [pp lL.p] (.int .i64 (lL.sz)) rfl rfl (fun _ _ => by kernel_rfl) (size_o hS (szo_of hr.2.1 hok.2.1)) rfl ?_
     intro w44 hq
     replace Q1 := Q1.mo hq
     replace Q3 := Q3.mo hq
     replace hS := hS.mo hq
     replace M := M.trans hq
     clear hq
     refine wl_m (.tmp 64) (.int .i64 (lL.sz)) ?_
     refine w_nil (xn_then ?_)
     refine w_cut (fun l w1 => ∃ Sx : Sm, look l 0 = pt t 0 ∧ look l 1 = pt k 0 ∧ look l 2 = .int .i64 ((c : Nat) : Int) ∧ look l 3 = .int .i64 (fa) ∧ look l 4 = .int .i64 (ta) ∧ look l 10 = pt k1 0 ∧ look l 11 = pt k3 0 ∧ look l 12 = .int .i64 (lL.sz) ∧ Sx.ok ∧ [Sx, prt c (mb.sc.getD c 0) (fa - lL.sz - 1) (ta - lL.sz - 1) r.ids].foldl jn sm0 = prt c (mb.sc.getD c 0) fa ta (lL.ids ++ i :: r.ids) ∧ HS D w1 t mb R root (lk2) ∧ At w1 k1 [.int .i64 0, .int .i64 0, .int .i64 0, .int .i64 0, .int .i64 0, .int .u64 0, .int .u64 0, .int .u64 0, .int .u64 0, .int .u64 0, .bool false, .bool false, .int .u64 0, .int .u64 0, .int .u64 0, .int .u64 0, .int .i64 0, .bool false, .int .u64 0, .int .u64 0, .int .u64 0, .int .u64 0, .int .i64 0] ∧ At w1 k3 (sml Sx) ∧ Mk D w w1) ?_ ?_
     ·skip
      clear hS M Q1 Q3
      rintro l9 wd ⟨Sx, h0, h1, h2, h3, h4, h10, h11, h12, okSx, hSx, hS, Q1, Q3, M⟩
      refine w_seq ?_
      obtain ⟨Sr, hSr⟩ : ∃ X, X = prt c (mb.sc.getD c 0) (fa - lL.sz - 1) (ta - lL.sz - 1) r.ids := ⟨_, rfl⟩
      have okSr : Sr.ok := by rw [hSr]; exact prt_ok hokr
      have hsm : Smos [vq (smv Sx), vq (pt t 0), vq (pt k 0), vq (pt k 0), vq (pt k 3), vq (pt k 4), vq (pp r.p), vq (.int .i64 ((c : Nat) : Int)), vq (.int .i64 (fa)), vq (.int .i64 (lL.sz)), vq (.int .i64 (fa - lL.sz)), vq (.int .i64 (fa - lL.sz - 1)), vq (.int .i64 (ta)), vq (.int .i64 (lL.sz)), vq (.int .i64 (ta - lL.sz)), vq (.int .i64 (ta - lL.sz - 1)), vq (smv Sr)] := smos_cons (smo_vq _) (smos_cons (smo_vq _) (smos_cons (smo_vq _) (smos_cons (smo_vq _) (smos_cons (smo_vq _) (smos_cons (smo_vq _) (smos_cons (smo_vq _) (smos_cons (smo_vq _) (smos_cons (smo_vq _) (smos_cons (smo_vq _) (smos_cons (smo_vq _) (smos_cons (smo_vq _) (smos_cons (smo_vq _) (smos_cons (smo_vq _) (smos_cons (smo_vq _) (smos_cons (smo_vq _) (smos_cons (smo_vq _) (smos_nil)))))))))))))))))
      obtain ⟨G, hGd⟩ : ∃ G, G = (fun (L9 : Nat → Bool) (f9 : Nat → Value) (w9 : World) => (L9 16 = false → Mo wd w9) ∧ (L9 16 = true → ∃ lk9, HS D w9 t mb R root lk9 ∧ (lk2) ≤ lk9 ∧ pbd (fa - lL.sz - 1) (ta - lL.sz - 1) r.sz r.ht (lk2) lk9 ∧ Mk D wd w9)) := ⟨_, rfl⟩
      have hgr : ∀ (i : Nat) (v : Value), i ≠ 16 → ∀ (L9 : Nat → Bool) (f9 : Nat → Value) (a b : World), G L9 f9 a → L9 i = false → Mo a b → G (updB L9 i) (upd f9 i v) b := by
       intro i v h5 L9 f9 a b h _ m
       rw [hGd] at h ⊢
       simp only [updB_ne (Ne.symm h5)]
       exact ⟨fun x => (h.1 x).trans m, fun x => (by obtain ⟨y, q1, q2, q3, q4⟩ := h.2 x; exact ⟨y, q1.mo m, q2, q3, q4.trans m⟩)⟩
      have hsee : ∀ (L9 : Nat → Bool) (f9 : Nat → Value) (a : World), G L9 f9 a → (∃ lk9, HS D a t mb R root lk9) ∧ At a k3 (sml Sx) := by
       intro L9 f9 a h
       rw [hGd] at h
       cases e9 : L9 16 with
       | false => exact ⟨⟨_, hS.mo (h.1 e9)⟩, Q3.mo (h.1 e9)⟩
       | true => obtain ⟨y, q1, q2, q3, q4⟩ := h.2 e9; exact ⟨⟨y, q1⟩, q4.at Q3 nd_k3⟩
      refine w_ogl 17 G [vq (smv Sx), vq (pt t 0), vq (pt k 0), vq (pt k 0), vq (pt k 3), vq (pt k 4), vq (pp r.p), vq (.int .i64 ((c : Nat) : Int)), vq (.int .i64 (fa)), vq (.int .i64 (lL.sz)), vq (.int .i64 (fa - lL.sz)), vq (.int .i64 (fa - lL.sz - 1)), vq (.int .i64 (ta)), vq (.int .i64 (lL.sz)), vq (.int .i64 (ta - lL.sz)), vq (.int .i64 (ta - lL.sz - 1)), vq (smv Sr)] (by kernel_rfl) (by kernel_rfl) (by kernel_rfl) (by kernel_rfl) rfl (fun f => by rw [hGd]; exact ⟨fun _ => (Mo.refl _).drew, (fun e => by cases e)⟩) ?_ ?_
      ·refine ea_cons ?_ (ea_cons ?_ (ea_cons ?_ (ea_cons ?_ (ea_cons ?_ (ea_cons ?_ (ea_cons ?_ (ea_cons ?_ (ea_cons ?_ (ea_cons ?_ (ea_cons ?_ (ea_cons ?_ (ea_cons ?_ (ea_cons ?_ (ea_cons ?_ (ea_cons ?_ (ea_cons ?_ (ea_nil)))))))))))))))))
       ·exact ol_eq (smv Sx) rfl (hgr 0 _ (by decide)) hsm (fun L9 f wf hG hd K hK => have ⟨⟨_, hS⟩, Q3⟩ := hsee L9 f wf hG; go_run rfl (wo_load 42 (.tmp 11) (pt k3 0) (smv Sx) rfl h11 (run_row Q3 42 0 23 (sml Sx) rfl Try.underlying42 rfl zs42) (hK _ (Mo.refl _))))
       ·exact ol_eq (pt t 0) rfl (hgr 1 _ (by decide)) hsm (fun L9 f wf hG hd K hK => go_run rfl (wo_mv (.tmp 0) (pt t 0) (fun _ => rfl) h0 (hK _ (Mo.refl _))))
       ·exact ol_eq (pt k 0) rfl (hgr 2 _ (by decide)) hsm (fun L9 f wf hG hd K hK => go_run rfl (wo_mv (.tmp 1) (pt k 0) (fun _ => rfl) h1 (hK _ (Mo.refl _))))
       ·exact ol_eq (pt k 0) rfl (hgr 3 _ (by decide)) hsm (fun L9 f wf hG hd K hK => go_run rfl (wo_nc (.tmp 82) k 0 rfl (hd 2 rfl) (hK _ (Mo.refl _))))
       ·exact ol_eq (pt k 3) rfl (hgr 4 _ (by decide)) hsm (fun L9 f wf hG hd K hK => go_run rfl (wo_un (fun v => Instr.fieldAt 93 v 2) (.tmp 83) (pt k 0) (pt k 3) (fun _ => rfl) (hd 3 rfl) (by kernel_rfl) (hK _ (Mo.refl _))))
       ·exact ol_eq (pt k 4) rfl (hgr 5 _ (by decide)) hsm (fun L9 f wf hG hd K hK => go_run rfl (wo_bin (fun x y => Instr.indexAt 91 x y) (.tmp 84) (.const (.int .i64 (1))) (pt k 3) (.int .i64 (1)) (pt k 4) (fun _ => rfl) (hd 4 rfl) rfl (by kernel_rfl) (hK _ (Mo.refl _))))
       ·exact ol_eq (pp r.p) rfl (hgr 6 _ (by decide)) hsm (fun L9 f wf hG hd K hK => have ⟨⟨_, hS⟩, Q3⟩ := hsee L9 f wf hG; go_run rfl (wo_load 65 (.tmp 85) (pt k 4) (pp r.p) rfl (hd 5 rfl) (run_one (hS.rc k _ hk) 65 4 rfl Try.underlying65 rfl) (hK _ (Mo.refl _))))
       ·exact ol_eq (.int .i64 ((c : Nat) : Int)) rfl (hgr 7 _ (by decide)) hsm (fun L9 f wf hG hd K hK => go_run rfl (wo_mv (.tmp 2) (.int .i64 ((c : Nat) : Int)) (fun _ => rfl) h2 (hK _ (Mo.refl _))))
       ·exact ol_eq (.int .i64 (fa)) rfl (hgr 8 _ (by decide)) hsm (fun L9 f wf hG hd K hK => go_run rfl (wo_mv (.tmp 3) (.int .i64 (fa)) (fun _ => rfl) h3 (hK _ (Mo.refl _))))
       ·exact ol_eq (.int .i64 (lL.sz)) rfl (hgr 9 _ (by decide)) hsm (fun L9 f wf hG hd K hK => go_run rfl (wo_mv (.tmp 12) (.int .i64 (lL.sz)) (fun _ => rfl) h12 (hK _ (Mo.refl _))))
       ·exact ol_eq (.int .i64 (fa - lL.sz)) rfl (hgr 10 _ (by decide)) hsm (fun L9 f wf hG hd K hK => go_run rfl (wo_bin (fun x y => do eqGuard .sub 3 (.tmp 88) (.tmp 89) x y; binOp .sub 3 x y) (.tmp 88) (.tmp 89) (.int .i64 (fa)) (.int .i64 (lL.sz)) (.int .i64 (fa - lL.sz)) (fun _ => rfl) (hd 8 rfl) (hd 9 rfl) (subI (by omega) (by omega) _ _ _) (hK _ (Mo.refl _))))
       ·exact ol_eq (.int .i64 (fa - lL.sz - 1)) rfl (hgr 11 _ (by decide)) hsm (fun L9 f wf hG hd K hK => go_run rfl (wo_bin (fun x y => do eqGuard .sub 3 (.tmp 90) (.const (.int .i64 (1))) x y; binOp .sub 3 x y) (.tmp 90) (.const (.int .i64 (1))) (.int .i64 (fa - lL.sz)) (.int .i64 (1)) (.int .i64 (fa - lL.sz - 1)) (fun _ => rfl) (hd 10 rfl) rfl (subI (by omega) (by omega) _ _ _) (hK _ (Mo.refl _))))
       ·exact ol_eq (.int .i64 (ta)) rfl (hgr 12 _ (by decide)) hsm (fun L9 f wf hG hd K hK => go_run rfl (wo_mv (.tmp 4) (.int .i64 (ta)) (fun _ => rfl) h4 (hK _ (Mo.refl _))))
       ·exact ol_eq (.int .i64 (lL.sz)) rfl (hgr 13 _ (by decide)) hsm (fun L9 f wf hG hd K hK => go_run rfl (wo_mv (.tmp 12) (.int .i64 (lL.sz)) (fun _ => rfl) h12 (hK _ (Mo.refl _))))
       ·exact ol_eq (.int .i64 (ta - lL.sz)) rfl (hgr 14 _ (by decide)) hsm (fun L9 f wf hG hd K hK => go_run rfl (wo_bin (fun x y => do eqGuard .sub 3 (.tmp 92) (.tmp 93) x y; binOp .sub 3 x y) (.tmp 92) (.tmp 93) (.int .i64 (ta)) (.int .i64 (lL.sz)) (.int .i64 (ta - lL.sz)) (fun _ => rfl) (hd 12 rfl) (hd 13 rfl) (subI (by omega) (by omega) _ _ _) (hK _ (Mo.refl _))))
       ·exact ol_eq (.int .i64 (ta - lL.sz - 1)) rfl (hgr 15 _ (by decide)) hsm (fun L9 f wf hG hd K hK => go_run rfl (wo_bin (fun x y => do eqGuard .sub 3 (.tmp 94) (.const (.int .i64 (1))) x y; binOp .sub 3 x y) (.tmp 94) (.const (.int .i64 (1))) (.int .i64 (ta - lL.sz)) (.int .i64 (1)) (.int .i64 (ta - lL.sz - 1)) (fun _ => rfl) (hd 14 rfl) rfl (subI (by omega) (by omega) _ _ _) (hK _ (Mo.refl _))))
       ·refine ⟨fun L9 f wf hG hi hd K9 hK => ?_⟩
        rw [hGd] at hG
        have hmo := hG.1 hi
        have h9 := part_n r (fa := fa - lL.sz - 1) (ta := ta - lL.sz - 1) hc (hS.mo hmo) hr.2.2 hok.2.2 (by omega) ⟨by omega, by omega⟩ ⟨by omega, by omega⟩ (by omega) (by omega)
        rw [← hSr] at h9
        refine go_run rfl (wo_callx 33 [(.tmp 81), (.tmp 86), (.tmp 87), (.tmp 91), (.tmp 95)] _ [pt t 0, pp r.p, .int .i64 ((c : Nat) : Int), .int .i64 (fa - lL.sz - 1), .int .i64 (ta - lL.sz - 1)] rfl (li5 (hd 1 rfl).2 (hd 6 rfl).2 (hd 7 rfl).2 (hd 11 rfl).2 (hd 15 rfl).2) (fun _ _ => by kernel_rfl) h9 (fun e9 w9 ⟨he, lk9, q1, q2, q3, q4⟩ => ⟨_, he, hK _ w9 ?_ rfl (fun j u hj hr => ?_)⟩))
        ·rw [hGd]
         simp only [updB_eq]
         exact ⟨fun e => (by cases e), fun _ => ⟨lk9, q1, q2, q3, (Mk.of D hmo).same q4⟩⟩
        ·match j, hj, hr with
         | 0, _, hr => exact hr
         | 1, _, hr => exact hr
         | 2, _, hr => exact hr
         | 3, _, hr => exact hr
         | 4, _, hr => exact hr
         | 5, _, hr => exact hr
         | 6, _, hr => exact hr
         | 7, _, hr => exact hr
         | 8, _, hr => exact hr
         | 9, _, hr => exact hr
         | 10, _, hr => exact hr
         | 11, _, hr => exact hr
         | 12, _, hr => exact hr
         | 13, _, hr => exact hr
         | 14, _, hr => exact hr
         | 15, _, hr => exact hr
         | 16, _, hr => exact hr
         | j + 17, _, _ => trivial
      intro L9 f w71 hall hG hR
      rw [hGd] at hG
      obtain ⟨lk3, hS3, hl3, hl4, hM9⟩ := hG.2 (hall 16 rfl)
      have e0 := hR 0 rfl
      have e16 := hR 16 rfl
      clear hG hall hR hgr hsm hGd hsee
      replace Q1 := hM9.at Q1 nd_k1
      replace Q3 := hM9.at Q3 nd_k3
      replace hS := hS3
      replace M := M.same hM9
      clear hS3 hM9
      refine wl_bs47b (.tmp 80) (.tmp 96) Sx Sr rfl e0 e16 rfl ?_
      intro g4 w72 hk9 hq S4
      replace Q1 := Q1.mo hq
      replace Q3 := Q3.mo hq
      replace hS := hS.mo hq
      replace M := M.trans hq
      clear hk9 hq
      obtain ⟨Jg4, hJg4⟩ : ∃ X, X = [Sx, Sr].foldl jn sm0 := ⟨_, rfl⟩
      have okJg4 : Jg4.ok := by rw [hJg4]; exact fold_ok _ sm0_ok (two_ok okSx okSr)
      refine wl_call 49 [(.tmp 97)] _ [.slice (some ⟨g4, 0, none⟩) 2 2] (smv Jg4) rfl rfl (fun _ _ => by kernel_rfl) (by have h9 := join_n [Sx, Sr] (some ⟨g4, 0, none⟩) 2 (two_ok okSx okSr) S4 (show 2 ≤ 900000000000000000 by decide); rw [← hJg4] at h9; exact h9) rfl ?_
      intro w73 hq
      replace Q1 := Q1.mo hq
      replace Q3 := Q3.mo hq
      replace hS := hS.mo hq
      replace M := M.trans hq
      clear hq
      refine wl_stx2 42 (.tmp 10) (.tmp 98) k1 0 ((sml Jg4).toArray) _ (sml Jg4) Q1 rfl rfl h10 rfl rfl zs42 rfl rfl rfl ?_
      intro w74 hT Qn
      replace Q1 := Qn
      replace Q3 := hT.other _ _ ne_k1_k3.symm Q3
      have hK := Mk.st1 hT
      replace hS := hS.kept hK (fun j e q => nd_k1 (q ▸ e)) (fun b hb q => ns_k1 b hb q)
      replace M := M.tr hK (fun j hj e => absurd e (by omega))
      clear hT hK Qn
      refine w_nil (xn_then (w_ret ?_))
      exact w_ret1 _ (smv Jg4) rfl ⟨k1, h10, (run_row Q1 42 0 23 (sml Jg4) rfl Try.underlying42 rfl zs42)⟩ ⟨by show _ = Ending.returned (smv (prt c (mb.sc.getD c 0) fa ta (lL.ids ++ i :: r.ids))); rw [(show prt c (mb.sc.getD c 0) fa ta (lL.ids ++ i :: r.ids) = Jg4 by rw [hJg4, hSr]; exact hSx.symm)], _, hS, by omega, by unfold pbd at *; refine ⟨by omega, fun _ => by omega, fun _ => by omega⟩, M⟩
     ·skip
      refine w_seq ?_
      cases hf2 : decide (fa ≤ lL.sz) with
      | true =>
       have hf2p := of_decide_eq_true hf2
       cases hf3 : decide (lL.sz < ta) with
       | true =>
        have hf3p := of_decide_eq_true hf3
        refine w_reg ?_
        refine wl_mv (.tmp 3) (.int .i64 (fa)) (fun _ => rfl) f3 rfl ?_
        refine wl_m (.tmp 12) (.int .i64 (lL.sz)) ?_
        refine wl_b .leq 3 (.tmp 65) (.tmp 66) (.int .i64 (fa)) (.int .i64 (lL.sz)) (.bool true) (leI hf2 _ _ _) ?_
        refine wl_m (.tmp 67) (.bool true) ?_
        refine wl_m (.tmp 12) (.int .i64 (lL.sz)) ?_
        refine wl_mv (.tmp 4) (.int .i64 (ta)) (fun _ => rfl) f4 rfl ?_
        refine wl_b .lss 3 (.tmp 69) (.tmp 70) (.int .i64 (lL.sz)) (.int .i64 (ta)) (.bool true) (ltI hf3 _ _ _) ?_
        refine wl_pick (.tmp 68) (.tmp 71) (.const (.bool false)) true (.bool true) (fun _ => rfl) rfl rfl rfl ?_
        refine w_nil (xn_then (w_condT rfl ?_))
        refine w_any 5 [.inl (smv Sl), .inl (pt t 0), .inl (pt k 0), .inl (.int .i64 ((c : Nat) : Int)), .inl (smv So)] [] (by kernel_rfl) (by kernel_rfl) (by kernel_rfl) (by kernel_rfl) rfl (by kernel_rfl) (by kernel_rfl) late_nil ?_ ?_ ?_
        ·exact Ds.none rfl
        ·refine ea_cons ?_ (ea_cons ?_ (ea_cons ?_ (ea_cons ?_ (ea_cons ?_ (ea_nil)))))
         ·exact og_eq _ rfl (fun f wf hq hd K hK => have Q3 := Q3.mo hq; go_run rfl (wo_load 42 (.tmp 11) (pt k3 0) (smv Sl) rfl rfl (run_row Q3 42 0 23 (sml Sl) rfl Try.underlying42 rfl zs42) (hK _ (Mo.refl _))))
         ·exact og_eq _ rfl (fun f wf hq hd K hK => go_run rfl (wo_mv (.tmp 0) (pt t 0) (fun _ => rfl) f0 (hK _ (Mo.refl _))))
         ·exact og_eq _ rfl (fun f wf hq hd K hK => go_run rfl (wo_mv (.tmp 1) (pt k 0) (fun _ => rfl) f1 (hK _ (Mo.refl _))))
         ·exact og_eq _ rfl (fun f wf hq hd K hK => go_run rfl (wo_mv (.tmp 2) (.int .i64 ((c : Nat) : Int)) (fun _ => rfl) f2 (hK _ (Mo.refl _))))
         ·exact og_eq _ rfl (fun f wf hq hd K hK => have hS := hS.mo hq; go_run rfl (wo_call 50 [(.tmp 74), (.tmp 75), (.tmp 76)] _ [pt t 0, pt k 0, .int .i64 ((c : Nat) : Int)] (smv So) rfl (li3 (hd 1 rfl) (hd 2 rfl) (hd 3 rfl)) (fun _ _ => by kernel_rfl) (by have h9 := own_n hS hk hcv hsc; rw [← hSo] at h9; exact h9) hK))
        intro kf45 w45 hq _ _
        replace Q1 := Q1.mo hq
        replace Q3 := Q3.mo hq
        replace hS := hS.mo hq
        replace M := M.trans hq
        clear hq
        refine wl_bs47b (.tmp 73) (.tmp 77) Sl So rfl rfl rfl rfl ?_
        intro g4 w46 hk9 hq S4
        replace Q1 := Q1.mo hq
        replace Q3 := Q3.mo hq
        replace hS := hS.mo hq
        replace M := M.trans hq
        clear hk9 hq
        obtain ⟨Jg4, hJg4⟩ : ∃ X, X = [Sl, So].foldl jn sm0 := ⟨_, rfl⟩
        have okJg4 : Jg4.ok := by rw [hJg4]; exact fold_ok _ sm0_ok (two_ok okSl okSo)
        refine wl_call 49 [(.tmp 78)] _ [.slice (some ⟨g4, 0, none⟩) 2 2] (smv Jg4) rfl rfl (fun _ _ => by kernel_rfl) (by have h9 := join_n [Sl, So] (some ⟨g4, 0, none⟩) 2 (two_ok okSl okSo) S4 (show 2 ≤ 900000000000000000 by decide); rw [← hJg4] at h9; exact h9) rfl ?_
        intro w47 hq
        replace Q1 := Q1.mo hq
        replace Q3 := Q3.mo hq
        replace hS := hS.mo hq
        replace M := M.trans hq
        clear hq
        refine wl_stx2 42 (.tmp 11) (.tmp 79) k3 0 ((sml Jg4).toArray) (sml Sl) (sml Jg4) Q3 rfl rfl rfl rfl rfl zs42 rfl rfl rfl ?_
        intro w48 hT Qn
        replace Q3 := Qn
        replace Q1 := hT.other _ _ ne_k1_k3 Q1
        have hK := Mk.st1 hT
        replace hS := hS.kept hK (fun j e q => nd_k3 (q ▸ e)) (fun b hb q => ns_k3 b hb q)
        replace M := M.tr hK (fun j hj e => absurd e (by omega))
        clear hT hK Qn
        refine w_nil ?_
        exact xn_cut ⟨Jg4, f0, f1, f2, f3, f4, f10, rfl, rfl, okJg4, (by rw [hJg4, hSl, hSo]; exact prt_mid hlz hokl hoki hokr (by have := of_decide_eq_true hf2; have := of_decide_eq_true hf3; omega) (by have := of_decide_eq_true hf2; have := of_decide_eq_true hf3; omega)), hS, Q1, Q3, M⟩
       | false =>
        have hf3p := of_decide_eq_false hf3
        refine w_reg ?_
        refine wl_mv (.tmp 3) (.int .i64 (fa)) (fun _ => rfl) f3 rfl ?_
        refine wl_m (.tmp 12) (.int .i64 (lL.sz)) ?_
        refine wl_b .leq 3 (.tmp 65) (.tmp 66) (.int .i64 (fa)) (.int .i64 (lL.sz)) (.bool true) (leI hf2 _ _ _) ?_
        refine wl_m (.tmp 67) (.bool true) ?_
        refine wl_m (.tmp 12) (.int .i64 (lL.sz)) ?_
        refine wl_mv (.tmp 4) (.int .i64 (ta)) (fun _ => rfl) f4 rfl ?_
        refine wl_b .lss 3 (.tmp 69) (.tmp 70) (.int .i64 (lL.sz)) (.int .i64 (ta)) (.bool false) (ltI hf3 _ _ _) ?_
        refine wl_pick (.tmp 68) (.tmp 71) (.const (.bool false)) true (.bool false) (fun _ => rfl) rfl rfl rfl ?_
        refine w_nil (xn_then (w_condF rfl (w_skip ?_)))
        exact xn_cut ⟨Sl, f0, f1, f2, f3, f4, f10, rfl, rfl, okSl, (by rw [hSl]; exact prt_out hlz hokl hokr (by have := of_decide_eq_true hf2; have := of_decide_eq_false hf3; omega)), hS, Q1, Q3, M⟩
      | false =>
       have hf2p := of_decide_eq_false hf2
       refine w_reg ?_
       refine wl_mv (.tmp 3) (.int .i64 (fa)) (fun _ => rfl) f3 rfl ?_
       refine wl_m (.tmp 12) (.int .i64 (lL.sz)) ?_
       refine wl_b .leq 3 (.tmp 65) (.tmp 66) (.int .i64 (fa)) (.int .i64 (lL.sz)) (.bool false) (leI hf2 _ _ _) ?_
       refine wl_m (.tmp 67) (.bool false) ?_
       refine wl_skip rfl (wl_skip rfl (wl_skip rfl ?_))
       refine wl_pick (.tmp 68) (.tmp 71) (.const (.bool false)) false (.bool false) (fun _ => rfl) rfl rfl rfl ?_
       refine w_nil (xn_then (w_condF rfl (w_skip ?_)))
       exact xn_cut ⟨Sl, f0, f1, f2, f3, f4, f10, rfl, rfl, okSl, (by rw [hSl]; exact prt_out hlz hokl hokr (by have := of_decide_eq_false hf2; omega)), hS, Q1, Q3, M⟩
    ·skip
     refine w_seq ?_
     cases hf2 : decide (fa ≤ 0) with
     | true =>
      have hf2p := of_decide_eq_true hf2
      cases hf3 : decide (s ≤ ta) with
      | true =>
       have hf3p := of_decide_eq_true hf3
       refine w_reg ?_
       refine wl_m (.tmp 3) (.int .i64 (fa)) ?_
       refine wl_b .leq 3 (.tmp 32) (.const (.int .i64 (0))) (.int .i64 (fa)) (.int .i64 (0)) (.bool true) (leI hf2 _ _ _) ?_
       refine wl_m (.tmp 33) (.bool true) ?_
       refine wl_m (.tmp 4) (.int .i64 (ta)) ?_
       refine wl_m (.tmp 1) (pt k 0) ?_
       refine wl_nc (.tmp 36) k 0 rfl rfl rfl ?_
       refine wl_f 93 3 (.tmp 37) (pt k 0) (pt k 5) ?_
       refine wl_l 3 (.tmp 38) (pt k 5) (.int .i64 (s)) (run_one (hS.rc k _ hk) 3 5 rfl Try.underlying3 rfl) ?_
       refine wl_b .geq 3 (.tmp 35) (.tmp 39) (.int .i64 (ta)) (.int .i64 (s)) (.bool true) (geI hf3 _ _ _) ?_
       refine wl_pick (.tmp 34) (.tmp 40) (.const (.bool false)) true (.bool true) (fun _ => rfl) rfl rfl rfl ?_
       refine w_nil (xn_then (w_condT rfl (w_seq (w_reg ?_))))
       refine wl_m (.tmp 1) (pt k 0) ?_
       refine wl_nc (.tmp 42) k 0 rfl rfl rfl ?_
       refine wl_f 93 4 (.tmp 43) (pt k 0) (pt k 6) ?_
       refine wl_l 47 (.tmp 44) (pt k 6) (hd1) (run_one (hS.rc k _ hk) 47 6 rfl Try.underlying47 rfl) ?_
       refine wl_m (.tmp 2) (.int .i64 ((c : Nat) : Int)) ?_
       obtain ⟨b, off, cap, hh, hb9, hf9, hr9, hob⟩ := (hS.ss k _ hk).1.ix (i := c) (cs := sml Sn) (by rw [List.getElem?_map, hSn]; exact congrArg (Option.map sml) (agg_at hc))
       rw [List.length_map] at hh
       refine wl_bin (fun x y => Instr.indexAt 47 x y) (.tmp 45) (.tmp 46) (hd1) (.int .i64 ((c : Nat) : Int)) (pt b (off + c * 23)) (fun _ => rfl) rfl rfl (by show (Instr.indexAt 47 hd1 _).run _ _ = _; rw [show hd1 = _ from hh]; exact ix47 b off c _ _ hcl _) rfl ?_
       refine wl_l 42 (.tmp 47) (pt b (off + c * 23)) (smv Sn) (ld42 hr9) ?_
       refine wl_stx2 42 (.tmp 10) (.tmp 48) k1 0 ((sml Sn).toArray) _ (sml Sn) Q1 rfl rfl rfl rfl rfl zs42 rfl rfl rfl ?_
       intro w4 hT Qn
       replace Q1 := Qn
       have hK := Mk.st1 hT
       replace hS := hS.kept hK (fun j e q => nd_k1 (q ▸ e)) (fun b hb q => ns_k1 b hb q)
       replace M := M.tr hK (fun j hj e => absurd e (by omega))
       clear hT hK Qn
       refine w_nil (xn_then (w_ret (xr_then ?_)))
       exact w_ret1 _ (smv Sn) rfl ⟨k1, rfl, (run_row Q1 42 0 23 (sml Sn) rfl Try.underlying42 rfl zs42)⟩ ⟨by show _ = Ending.returned (smv (prt c (mb.sc.getD c 0) fa ta (lL.ids ++ i :: r.ids))); rw [(show prt c (mb.sc.getD c 0) fa ta (lL.ids ++ i :: r.ids) = Sn by rw [hSn]; exact prt_all (by have := of_decide_eq_false hf0; have := of_decide_eq_false hf1; have := of_decide_eq_true hf2; have := of_decide_eq_true hf3; omega) (by have := of_decide_eq_false hf0; have := of_decide_eq_false hf1; have := of_decide_eq_true hf2; have := of_decide_eq_true hf3; omega))], _, hS, by have := of_decide_eq_false hf0; have := of_decide_eq_false hf1; have := of_decide_eq_true hf2; have := of_decide_eq_true hf3; omega, by have := of_decide_eq_false hf0; have := of_decide_eq_false hf1; have := of_decide_eq_true hf2; have := of_decide_eq_true hf3; unfold pbd at *; refine ⟨by omega, fun _ => by omega, fun _ => by omega⟩, M⟩
      | false =>
       have hf3p := of_decide_eq_false hf3
       refine w_reg ?_
       refine wl_m (.tmp 3) (.int .i64 (fa)) ?_
       refine wl_b .leq 3 (.tmp 32) (.const (.int .i64 (0))) (.int .i64 (fa)) (.int .i64 (0)) (.bool true) (leI hf2 _ _ _) ?_
       refine wl_m (.tmp 33) (.bool true) ?_
       refine wl_m (.tmp 4) (.int .i64 (ta)) ?_
       refine wl_m (.tmp 1) (pt k 0) ?_
       refine wl_nc (.tmp 36) k 0 rfl rfl rfl ?_
       refine wl_f 93 3 (.tmp 37) (pt k 0) (pt k 5) ?_
       refine wl_l 3 (.tmp 38) (pt k 5) (.int .i64 (s)) (run_one (hS.rc k _ hk) 3 5 rfl Try.underlying3 rfl) ?_
       refine wl_b .geq 3 (.tmp 35) (.tmp 39) (.int .i64 (ta)) (.int .i64 (s)) (.bool false) (geI hf3 _ _ _) ?_
       refine wl_pick (.tmp 34) (.tmp 40) (.const (.bool false)) true (.bool false) (fun _ => rfl) rfl rfl rfl ?_
       refine w_nil (xn_then (w_condF rfl (w_skip ?_)))
       exact xn_cut ⟨rfl, rfl, rfl, rfl, rfl, rfl, by have := of_decide_eq_false hf0; have := of_decide_eq_false hf1; have := of_decide_eq_true hf2; have := of_decide_eq_false hf3; omega, by have := of_decide_eq_false hf0; have := of_decide_eq_false hf1; have := of_decide_eq_true hf2; have := of_decide_eq_false hf3; omega, by have := of_decide_eq_false hf0; have := of_decide_eq_false hf1; have := of_decide_eq_true hf2; have := of_decide_eq_false hf3; omega, hS, Q1, M⟩
     | false =>
      have hf2p := of_decide_eq_false hf2
      refine w_reg ?_
      refine wl_m (.tmp 3) (.int .i64 (fa)) ?_
      refine wl_b .leq 3 (.tmp 32) (.const (.int .i64 (0))) (.int .i64 (fa)) (.int .i64 (0)) (.bool false) (leI hf2 _ _ _) ?_
      refine wl_m (.tmp 33) (.bool false) ?_
      refine wl_skip rfl (wl_skip rfl (wl_skip rfl (wl_skip rfl (wl_skip rfl (wl_skip rfl ?_)))))
      refine wl_pick (.tmp 34) (.tmp 40) (.const (.bool false)) false (.bool false) (fun _ => rfl) rfl rfl rfl ?_
      refine w_nil (xn_then (w_condF rfl (w_skip ?_)))
      exact xn_cut ⟨rfl, rfl, rfl, rfl, rfl, rfl, by have := of_decide_eq_false hf0; have := of_decide_eq_false hf1; have := of_decide_eq_false hf2; omega, by have := of_decide_eq_false hf0; have := of_decide_eq_false hf1; have := of_decide_eq_false hf2; omega, by have := of_decide_eq_false hf0; have := of_decide_eq_false hf1; have := of_decide_eq_false hf2; omega, hS, Q1, M⟩
end
end G
end Go.Proofs.Ythfemlhmnjfjiaa
/-
 Another value in a row: what is to be reckoned anew.
-/
namespace Go.Proofs.Ythfemlhmnjfjiaa
open Go.RowKit
namespace G
theorem HS.val {D : Nat → Prop} {w : World} {t : Nat} {mb : Hd} {M : Mp} {root : Option Nat} {lk : Int} (h : HS D w t mb M root lk) (A : Ap M) {k : Nat} {r : Rc} (e : M k = some r) {c b off cap : Nat} (hc : c < r.i.vs.length) (x : V10) (hx : x.n.ok) (hh : r.i.v = .slice (some ⟨b, off, none⟩) r.i.vs.length cap) :
  HS D (w.setCells b (off + c * 10) x.cells) t mb (ud M k ⟨r.u, r.l, r.r, r.s, ⟨r.i.i, r.i.v, r.i.vs.set c x⟩, r.h, r.c⟩) root lk := by
 have s := St2.mk2 w b (off + c * 10) x.cells
 have hK := Mk.st1 s
 have hob : ob r.i.v = some b := by rw [hh]; exact ob_slice (by omega)
 obtain ⟨db, bt, Mb⟩ := h.ds e (Or.inl hob)
 have hne : ∀ {j q}, M j = some q → j ≠ b := fun hj q => by rw [q, Mb] at hj; cases hj
 have hMb : ∀ {y}, M y = none → ud M k ⟨r.u, r.l, r.r, r.s, ⟨r.i.i, r.i.v, r.i.vs.set c x⟩, r.h, r.c⟩ y = none := fun {y} hb => by
  rw [ud_ne _ _ (fun q => by rw [q, e] at hb; cases hb)]; exact hb
 refine ⟨s.other t _ (Ne.symm bt) h.tr, h.sc.kept hK (fun b' hb' q => h.sd b' hb' (by rw [q]; exact db)), h.sd, fun j q hj => ?_, fun j q hj => ?_, fun j q hj => ?_, fun j q hj => ?_, hMb h.mt, h.dt, fun {j q} hj => ?_, fun {j q b'} hj hb => ?_, fun e => by rw [s.size]; exact h.lt e, h.nb, h.nc⟩
 ·rcases ud_or hj with ⟨rfl, rfl⟩ | ⟨hn, hj⟩
  ·exact s.other j _ (hne e) (h.rc j r e)
  ·exact s.other j _ (hne hj) (h.rc j q hj)
 ·rcases ud_or hj with ⟨rfl, rfl⟩ | ⟨hn, hj⟩
  ·exact s.cb _ (h.cb _ r e)
  ·exact s.cb _ (h.cb j q hj)
 ·rcases ud_or hj with ⟨rfl, rfl⟩ | ⟨hn, hj⟩
  ·obtain ⟨a1, a2, a3⟩ := h.sv j r e
   refine ⟨?_, by rw [List.length_set]; exact a2, fun X hX => ?_⟩
   ·have := a1.set (i := c) (by rw [List.length_map]; exact hh) (by rw [List.length_map]; exact hc) x.cells rfl (fun z hz => by obtain ⟨y, _, rfl⟩ := List.mem_map.1 hz; rfl)
    rw [← List.map_set] at this
    exact this
   ·rcases List.mem_or_eq_of_mem_set hX with hX | rfl
    ·exact a3 X hX
    ·exact hx
  ·exact ⟨(h.sv j q hj).1.kept hK (fun b' hb' z => A.vv e hj (Ne.symm hn) hob (z ▸ hb')), (h.sv j q hj).2⟩
 ·rcases ud_or hj with ⟨rfl, rfl⟩ | ⟨hn, hj⟩
  ·exact ⟨(h.ss _ r e).1.kept hK (fun b' hb' q => A.hv e e (q ▸ hb') hob), (h.ss _ r e).2⟩
  ·exact ⟨(h.ss j q hj).1.kept hK (fun b' hb' z => A.hv hj e (z ▸ hb') hob), (h.ss j q hj).2⟩
 ·rcases ud_or hj with ⟨rfl, rfl⟩ | ⟨hn, hj⟩
  ·exact h.dk e
  ·exact h.dk hj
 ·rcases ud_or hj with ⟨rfl, rfl⟩ | ⟨hn, hj⟩
  ·obtain ⟨a1, a2, a3⟩ := h.ds e hb; exact ⟨a1, a2, hMb a3⟩
  ·obtain ⟨a1, a2, a3⟩ := h.ds hj hb; exact ⟨a1, a2, hMb a3⟩
def Sim : T → T → Prop
 | .e, .e => True
 | .n k i s l r, .n k' i' s' l' r' => k = k' ∧ i.i = i'.i ∧ s = s' ∧ Sim l l' ∧ Sim r r'
 | .e, .n _ _ _ _ _ => False
 | .n _ _ _ _ _, .e => False
theorem Sim.same : ∀ a : T, Sim a a
 | .e => trivial
 | .n _ _ _ l r => ⟨rfl, rfl, rfl, Sim.same l, Sim.same r⟩
theorem Sim.plug : ∀ (C : Cx) {a b : T}, Sim a b → Sim (plug C a) (plug C b)
 | [], _, _, h => h
 | f :: C, a, b, h => Sim.plug C (a := f.jn a) (b := f.jn b) (by
  unfold Fr.jn
  split
  ·exact ⟨rfl, rfl, rfl, Sim.same _, h⟩
  ·exact ⟨rfl, rfl, rfl, h, Sim.same _⟩)
theorem Sim.all : ∀ {a b : T}, Sim a b → a.p = b.p ∧ a.ad = b.ad ∧ a.sz = b.sz ∧ a.ht = b.ht ∧ a.kv = b.kv ∧ (a.ok → b.ok) ∧ (a.bw → b.bw)
 | .e, .e, _ => ⟨rfl, rfl, rfl, rfl, rfl, fun h => h, fun h => h⟩
 | .n k i s l r, .n k' i' s' l' r', h => by
  obtain ⟨rfl, hi, rfl, h1, h2⟩ := h
  obtain ⟨a1, a2, a3, a4, a5, a6, a7⟩ := h1.all
  obtain ⟨b1, b2, b3, b4, b5, b6, b7⟩ := h2.all
  refine ⟨rfl, by unfold T.ad; rw [a2, b2], by unfold T.sz; rw [a3, b3], by unfold T.ht; rw [a4, b4], by unfold T.kv; rw [a5, b5, hi], fun h => ?_, fun h => ?_⟩
  ·exact ⟨by rw [← a3, ← b3]; exact h.1, a6 h.2.1, b6 h.2.2⟩
  ·exact ⟨by rw [← a3, ← b3]; exact h.1, by rw [← a3, ← b3]; exact h.2.1, a7 h.2.2.1, b7 h.2.2.2⟩
def Alm (sc : List Int) (c : Nat) (cs : List Sm) (L : List Py) : Prop := cs.length = sc.length ∧ ∀ d, d < sc.length → d ≠ c → cs[d]? = some (col d (sc.getD d 0) L)
def RepU (sc : List Int) (c : Nat) (R : Mp) (root : Option Nat) : Cx → T → Prop
 | [], tr => root = tr.p
 | f :: C, tr => (∃ h cs, R f.k = some (f.rc (top C) tr.p h cs) ∧ Alm sc c cs (f.jn tr).ids) ∧ Rep sc R (some f.k) f.o ∧ RepU sc c R root C (f.jn tr)
def Mu (sc : List Int) (c : Nat) (R : Mp) (root : Option Nat) (T' : T) (m : Nat) (x : Option Nat) : Prop := match x with
 | none => root = T'.p ∧ Rep sc R none T' ∧ m = 0
 | some k => ∃ C i s l r h cs, plug C (.n k i s l r) = T' ∧ m = C.length + 1 ∧ R k = some ⟨top C, l.p, r.p, s, i, h, cs⟩ ∧ Alm sc c cs (l.ids ++ i :: r.ids) ∧ Rep sc R (some k) l ∧ Rep sc R (some k) r ∧ RepU sc c R root C (.n k i s l r) ∧ (adC C ++ (T.n k i s l r).ad).Nodup
theorem RepU.ud {sc : List Int} {c : Nat} {R : Mp} {root : Option Nat} {k : Nat} {q : Rc} : ∀ {C : Cx} {tr : T}, k ∉ adC C → RepU sc c R root C tr → RepU sc c (ud R k q) root C tr
 | [], _, _, h => h
 | f :: C, tr, hk, h => by
  obtain ⟨⟨hh, cs, e, a⟩, h2, h3⟩ := h
  unfold adC at hk
  simp only [List.mem_cons, List.mem_append, not_or] at hk
  exact ⟨⟨hh, cs, (ud_ne _ _ (Ne.symm hk.1)).trans e, a⟩, h2.ud hk.2.1, RepU.ud hk.2.2 h3⟩
theorem Alm.done {sc : List Int} {c : Nat} {cs : List Sm} {L : List Py} (h : Alm sc c cs L) (hc : c < sc.length) : cs.set c (col c (sc.getD c 0) L) = agg sc L := by
 apply List.ext_getElem?
 intro d
 by_cases hd : d < sc.length
 ·rw [agg_at hd]
  by_cases e : c = d
  ·subst e; exact List.getElem?_set_self (by rw [h.1]; exact hc)
  ·rw [List.getElem?_set_ne e]; exact h.2 d hd (Ne.symm e)
 ·rw [List.getElem?_eq_none (by rw [List.length_set, h.1]; omega), List.getElem?_eq_none (by unfold agg; simp; omega)]
theorem Mu.step {sc : List Int} {c : Nat} {R : Mp} {root : Option Nat} {C : Cx} {k : Nat} {i : Py} {s : Int} {l r : T} {h : Value} {cs : List Sm} (hc : c < sc.length) (ha : Alm sc c cs (l.ids ++ i :: r.ids)) (hl : Rep sc R (some k) l) (hr : Rep sc R (some k) r) (hU : RepU sc c R root C (.n k i s l r)) (hn : (adC C ++ (T.n k i s l r).ad).Nodup) :
  Mu sc c (ud R k ⟨top C, l.p, r.p, s, i, h, cs.set c (col c (sc.getD c 0) (l.ids ++ i :: r.ids))⟩) root (plug C (.n k i s l r)) C.length (top C) := by
 obtain ⟨n1, n2, n3⟩ := nd_pos hn
 have hkC : k ∉ adC C := fun m => n3 k m (by unfold T.ad; simp)
 have hkl : k ∉ l.ad ∧ k ∉ r.ad := by
  unfold T.ad at n2
  have := (List.nodup_cons.1 n2).1
  simp only [List.mem_append, not_or] at this
  exact this
 rw [ha.done hc]
 have hR' : Rep sc (G.ud R k ⟨top C, l.p, r.p, s, i, h, agg sc (l.ids ++ i :: r.ids)⟩) (top C) (.n k i s l r) := ⟨⟨h, ud_same _ _ _⟩, hl.ud hkl.1, hr.ud hkl.2⟩
 have hU' := hU.ud (q := ⟨top C, l.p, r.p, s, i, h, agg sc (l.ids ++ i :: r.ids)⟩) hkC
 cases C with
 | nil => exact ⟨hU', hR', rfl⟩
 | cons f C =>
  obtain ⟨⟨hh, cs2, e, a⟩, h2, h3⟩ := hU'
  have hp := (ad_up f C (.n k i s l r)).nodup_iff.1 hn
  unfold Fr.rc at e
  unfold Fr.jn at a h3 hp
  cases hd : f.d with
  | true =>
   rw [hd] at e a h3 hp
   exact ⟨C, f.i, f.s, f.o, .n k i s l r, hh, cs2, by show plug C _ = plug C (f.jn _); unfold Fr.jn; rw [hd]; rfl, rfl, e, a, h2, hR', h3, hp⟩
  | false =>
   rw [hd] at e a h3 hp
   exact ⟨C, f.i, f.s, .n k i s l r, f.o, hh, cs2, by show plug C _ = plug C (f.jn _); unfold Fr.jn; rw [hd]; rfl, rfl, e, a, hR', h2, h3, hp⟩
theorem col_ext {d : Nat} {s : Int} {A B : List Py} {y z : Py} (h : y.vs.getD d v0 = z.vs.getD d v0) : col d s (A ++ y :: B) = col d s (A ++ z :: B) := by
 unfold col; rw [List.map_append, List.map_append, List.map_cons, List.map_cons, h]
theorem Alm.of {sc : List Int} {c : Nat} {A B : List Py} {y z : Py} (h : ∀ d, d ≠ c → y.vs.getD d v0 = z.vs.getD d v0) : Alm sc c (agg sc (A ++ y :: B)) (A ++ z :: B) :=
 ⟨by unfold agg; simp, fun d hd hn => by rw [agg_at hd, col_ext (h d hn)]⟩
theorem jn_mid (f : Fr) {tr : T} {A B : List Py} {y : Py} (h : tr.ids = A ++ y :: B) : ∃ A' B', (f.jn tr).ids = A' ++ y :: B' ∧ ∀ (tr' : T) (z : Py), tr'.ids = A ++ z :: B → (f.jn tr').ids = A' ++ z :: B' := by
 unfold Fr.jn
 cases f.d with
 | true => exact ⟨f.o.ids ++ f.i :: A, B, by simp [T.ids, h], fun tr' z h' => by simp [T.ids, h']⟩
 | false => exact ⟨A, B ++ f.i :: f.o.ids, by simp [T.ids, h], fun tr' z h' => by simp [T.ids, h']⟩
theorem Fr.jn_ud {sc : List Int} {R : Mp} {u : Option Nat} {f : Fr} {tr : T} (h : Rep sc R u (f.jn tr)) : ∃ hh, R f.k = some (f.rc u tr.p hh (agg sc (f.jn tr).ids)) := by
 unfold Fr.rc
 unfold Fr.jn at h ⊢
 cases hd : f.d with
 | true => rw [hd] at h; exact h.1
 | false => rw [hd] at h; exact h.1
theorem RepU.of {sc : List Int} {c : Nat} {R : Mp} {root : Option Nat} {k : Nat} {q : Rc} {y z : Py} (hyz : ∀ d, d ≠ c → y.vs.getD d v0 = z.vs.getD d v0) : ∀ (C : Cx) {tr tr' : T} {A B : List Py}, root = (plug C tr).p → Rep sc R none (plug C tr) → tr.p = tr'.p → tr.ids = A ++ y :: B → tr'.ids = A ++ z :: B → k ∉ adC C → RepU sc c (G.ud R k q) root C tr'
 | [], tr, tr', A, B, h0, _, hp, _, _, _ => h0.trans hp
 | f :: C, tr, tr', A, B, h0, hR, hp, h1, h2, hk => by
  obtain ⟨A', B', e1, e2⟩ := jn_mid f h1
  unfold adC at hk
  simp only [List.mem_cons, List.mem_append, not_or] at hk
  have hsub : ∀ (C : Cx) {tr : T}, Rep sc R none (plug C tr) → Rep sc R (top C) tr := fun C => by
   induction C with
   | nil => intro tr h; exact h
   | cons g C ih =>
    intro tr h
    have := ih (tr := g.jn tr) h
    unfold Fr.jn at this
    cases hd : g.d with
    | true => rw [hd] at this; exact this.2.2
    | false => rw [hd] at this; exact this.2.1
  have hj : Rep sc R (top C) (f.jn tr) := hsub C hR
  obtain ⟨hh, e⟩ := Fr.jn_ud hj
  have ho : Rep sc R (some f.k) f.o := by
   unfold Fr.jn at hj
   cases hd : f.d with
   | true => rw [hd] at hj; exact hj.2.1
   | false => rw [hd] at hj; exact hj.2.2
  refine ⟨⟨hh, _, (ud_ne _ _ (Ne.symm hk.1)).trans (by rw [← hp]; exact e), ?_⟩, ho.ud hk.2.1, ?_⟩
  ·rw [e1, e2 tr' z h2]; exact Alm.of hyz
  ·exact RepU.of hyz C (tr := f.jn tr) (tr' := f.jn tr') h0 hR (by rw [f.jn_p, f.jn_p]) e1 (e2 tr' z h2) hk.2.2
end G
end Go.Proofs.Ythfemlhmnjfjiaa
/-
 mendUp: one column is reckoned anew up to the root.
-/
namespace Go.Proofs.Ythfemlhmnjfjiaa
open Go.RowKit
namespace G
section
variable {D : Nat → Prop} {t : Nat} {mb : Hd} {R : Mp} {root : Option Nat} {c : Nat} {lk : Int} {T' : T}
theorem mendUp_n {w : World} (x : Option Nat) {m0 : Nat} (hS : HS D w t mb R root lk) (hA : Ap R) (hU : Mu mb.sc c R root T' m0 x) (hc : c < mb.sc.length) (h0 : 0 ≤ lk) (hlk : lk + 3 * m0 ≤ 4000000000000000000) : Calls Try.prog 39 #[pt t 0, pp x, .int .i64 (c : Int)] w fun e w' => e = .returned (.tuple #[]) ∧ ∃ R' lk', HS D w' t mb R' root lk' ∧ Ap R' ∧ Mu mb.sc c R' root T' 0 none ∧ lk ≤ lk' ∧ lk' ≤ lk + 3 * m0 ∧ (0 < m0 → lk < lk') ∧ Mk D w w' := by
 have hsc : mb.sc[c]? = some (mb.sc.getD c 0) := by rw [List.getD_eq_getElem?_getD, List.getElem?_eq_getElem hc]; rfl
 refine w_enter 30 Try.func39 Try.ntmps39 rfl rfl ?_
 have M : Mk D w w := Mk.refl _ _
 refine w_block ?_
 refine w_loop (fun m l w1 => ∃ (x : Option Nat) (R : Mp) (lk1 : Int), look l 0 = pt t 0 ∧ look l 1 = pp x ∧ look l 2 = .int .i64 (c : Int) ∧ HS D w1 t mb R root lk1 ∧ Ap R ∧ Mu mb.sc c R root T' m x ∧ lk ≤ lk1 ∧ lk1 + 3 * m ≤ lk + 3 * m0 ∧ (m < m0 → lk < lk1) ∧ m ≤ m0 ∧ Mk D w w1) m0 ⟨x, R, lk, rfl, rfl, rfl, hS, hA, hU, by omega, by omega, fun h => absurd h (Nat.lt_irrefl _), by omega, M⟩ ?_
 clear M hS hA hU
 rintro m l wl ⟨x1, R, lk1, g0, g1, g2, hS, hA, hU, hl1, hl2, hl3, hm, M⟩
 cases x1 with
 | none =>
  refine w_seq (w_seq (w_reg ?_))
  refine wl_mv (.tmp 1) (pp none) (fun _ => rfl) g1 rfl ?_
  refine wl_b .neq 65 (.tmp 6) (.const (.pointer none)) (pp none) (pp none) (.bool false) (neP none _ _ _) ?_
  refine w_nil (xn_then (w_condF rfl (w_exit (xx_then (xx_then (xx_blk ?_))))))
  exact w_end0 rfl ⟨rfl, R, lk1, hS, hA, ⟨hU.1, hU.2.1, rfl⟩, hl1, by omega, fun h => hl3 (by have := hU.2.2; omega), M⟩
 | some k =>
  obtain ⟨C, i, s, lT, rT, hd1, cs, hT, hmC, hk, ha, hl, hr, hUc, hn⟩ := hU
  have hoks := Rep.oks hS hl
  have hokr := Rep.oks hS hr
  have hoki : i.ok := (hS.sv k _ hk).2.2
  have hvl : i.vs.length = mb.sc.length := (hS.sv k _ hk).2.1
  have hcv : i.vs[c]? = some (i.vs.getD c v0) := by rw [List.getD_eq_getElem?_getD, List.getElem?_eq_getElem (by omega)]; rfl
  refine w_seq (w_seq (w_reg ?_))
  refine wl_mv (.tmp 1) (pt k 0) (fun _ => rfl) g1 rfl ?_
  refine wl_b .neq 65 (.tmp 6) (.const (.pointer none)) (pt k 0) (pp none) (.bool true) (neP (some k) _ _ _) ?_
  refine w_nil (xn_then (w_condT rfl (w_skip (xn_then (w_block (w_seq ?_))))))
  refine w_any 12 [.inl (pt t 0), .inl (pt k 0), .inl (pt k 0), .inl (pt k 0), .inl (pt k 3), .inl (pt k 3), .inl (pp lT.p), .inl (pt k 0), .inl (pt k 0), .inl (pt k 3), .inl (pt k 4), .inl (pp rT.p)] [0] (by kernel_rfl) (by kernel_rfl) (by kernel_rfl) (by kernel_rfl) rfl (by kernel_rfl) (by kernel_rfl) (late_cons ⟨_, _, rfl, rfl, fun _ _ _ _ h => h, fun f hd => ⟨rfl, la_mv (.tmp 0) (pt t 0) (fun _ => rfl) g0⟩⟩ late_nil) ?_ ?_ ?_
  ·exact Ds.none rfl
  ·refine ea_cons ?_ (ea_cons ?_ (ea_cons ?_ (ea_cons ?_ (ea_cons ?_ (ea_cons ?_ (ea_cons ?_ (ea_cons ?_ (ea_cons ?_ (ea_cons ?_ (ea_cons ?_ (ea_cons ?_ (ea_nil))))))))))))
   ·exact og_eq _ rfl (fun f wf hq hd K hK => go_run rfl (wo_mv (.tmp 0) (pt t 0) (fun _ => rfl) g0 (hK _ (Mo.refl _))))
   ·exact og_eq _ rfl (fun f wf hq hd K hK => go_run rfl (wo_mv (.tmp 1) (pt k 0) (fun _ => rfl) g1 (hK _ (Mo.refl _))))
   ·exact og_eq _ rfl (fun f wf hq hd K hK => go_run rfl (wo_mv (.tmp 1) (pt k 0) (fun _ => rfl) g1 (hK _ (Mo.refl _))))
   ·exact og_eq _ rfl (fun f wf hq hd K hK => go_run rfl (wo_nc (.tmp 10) k 0 rfl (hd 2 rfl) (hK _ (Mo.refl _))))
   ·exact og_eq _ rfl (fun f wf hq hd K hK => go_run rfl (wo_un (fun v => Instr.fieldAt 93 v 2) (.tmp 11) (pt k 0) (pt k 3) (fun _ => rfl) (hd 3 rfl) (by kernel_rfl) (hK _ (Mo.refl _))))
   ·exact og_eq _ rfl (fun f wf hq hd K hK => go_run rfl (wo_bin (fun x y => Instr.indexAt 91 x y) (.tmp 12) (.const (.int .i64 (0))) (pt k 3) (.int .i64 (0)) (pt k 3) (fun _ => rfl) (hd 4 rfl) rfl (by kernel_rfl) (hK _ (Mo.refl _))))
   ·exact og_eq _ rfl (fun f wf hq hd K hK => have hS := hS.mo hq; go_run rfl (wo_load 65 (.tmp 13) (pt k 3) (pp lT.p) rfl (hd 5 rfl) (run_one (hS.rc k _ hk) 65 3 rfl Try.underlying65 rfl) (hK _ (Mo.refl _))))
   ·exact og_eq _ rfl (fun f wf hq hd K hK => go_run rfl (wo_mv (.tmp 1) (pt k 0) (fun _ => rfl) g1 (hK _ (Mo.refl _))))
   ·exact og_eq _ rfl (fun f wf hq hd K hK => go_run rfl (wo_nc (.tmp 15) k 0 rfl (hd 7 rfl) (hK _ (Mo.refl _))))
   ·exact og_eq _ rfl (fun f wf hq hd K hK => go_run rfl (wo_un (fun v => Instr.fieldAt 93 v 2) (.tmp 16) (pt k 0) (pt k 3) (fun _ => rfl) (hd 8 rfl) (by kernel_rfl) (hK _ (Mo.refl _))))
   ·exact og_eq _ rfl (fun f wf hq hd K hK => go_run rfl (wo_bin (fun x y => Instr.indexAt 91 x y) (.tmp 17) (.const (.int .i64 (1))) (pt k 3) (.int .i64 (1)) (pt k 4) (fun _ => rfl) (hd 9 rfl) rfl (by kernel_rfl) (hK _ (Mo.refl _))))
   ·exact og_eq _ rfl (fun f wf hq hd K hK => have hS := hS.mo hq; go_run rfl (wo_load 65 (.tmp 18) (pt k 4) (pp rT.p) rfl (hd 10 rfl) (run_one (hS.rc k _ hk) 65 4 rfl Try.underlying65 rfl) (hK _ (Mo.refl _))))
  intro kf21 w21 hq _ _
  replace hS := hS.mo hq
  replace M := M.trans hq
  clear hq
  refine wl_bsl [(0, (.tmp 9)), (1, (.tmp 14)), (2, (.tmp 19))] [pp (some k), pp lT.p, pp rT.p] 3 rfl rfl (bs3 (some k) lT.p rT.p) rfl ?_
  intro g21 w22 hk hz hq Q21
  have nd_g21 : ¬ D g21 := fun e => by have := hS.lt e; omega
  replace hS := hS.mo hq
  replace M := M.trans hq
  clear hk hz hq
  refine wl_callg 34 [(.tmp 8), (.tmp 20)] _ [pt t 0, .slice (some ⟨g21, 0, none⟩) 3 3] (.tuple #[]) rfl rfl (fun _ _ => by kernel_rfl) (look_n [(some k), lT.p, rT.p] g21 hS Q21 nd_g21 (by simp only [List.length_cons, List.length_nil]; omega)) rfl ?_
  intro w23 hF
  obtain ⟨hS2, hM2⟩ := hF
  replace hS := hS2
  replace M := M.same hM2
  clear hS2 hM2 Q21 nd_g21
  refine w_nil (xn_then (w_seq (w_reg ?_)))
  refine wl_mv (.tmp 0) (pt t 0) (fun _ => rfl) g0 rfl ?_
  refine wl_mv (.tmp 1) (pt k 0) (fun _ => rfl) g1 rfl ?_
  refine wl_mv (.tmp 2) (.int .i64 ((c : Nat) : Int)) (fun _ => rfl) g2 rfl ?_
  refine wl_callg 55 [(.tmp 22), (.tmp 23), (.tmp 24)] _ [pt t 0, pt k 0, .int .i64 ((c : Nat) : Int)] (.tuple #[]) rfl rfl (fun _ _ => by kernel_rfl) (mendc_n hS hA hk (x := i.vs.getD c v0) (s := mb.sc.getD c 0) hcv hsc (smo_of hl hc) (smo_of hr hc)) rfl ?_
  intro w24 hF
  obtain ⟨hS2, hM2⟩ := hF
  rw [col_mid hoks hoki hokr] at hS2
  replace hS := hS2
  replace M := M.same hM2
  clear hS2 hM2
  replace hA := hA.wr hk (r' := ⟨top C, lT.p, rT.p, s, i, hd1, cs.set c (col c (mb.sc.getD c 0) (lT.ids ++ i :: rT.ids))⟩) rfl rfl
  have hU := Mu.step (h := hd1) hc ha hl hr hUc hn
  rw [hT] at hU
  clear ha hl hr hUc
  replace hk := ud_same R k ⟨top C, lT.p, rT.p, s, i, hd1, cs.set c (col c (mb.sc.getD c 0) (lT.ids ++ i :: rT.ids))⟩
  refine w_nil (xn_then (w_reg ?_))
  refine wl_mv (.tmp 1) (pt k 0) (fun _ => rfl) g1 rfl ?_
  refine wl_nc (.tmp 26) k 0 rfl rfl rfl ?_
  refine wl_f 93 1 (.tmp 27) (pt k 0) (pt k 2) ?_
  refine wl_l 65 (.tmp 28) (pt k 2) (pp ((top C))) (run_one (hS.rc k _ hk) 65 2 rfl Try.underlying65 rfl) ?_
  refine wl_m (.tmp 29) (pp ((top C))) ?_
  refine w_nil (xn_blk ?_)
  have hcn := cnt_le [some k, lT.p, rT.p]
  have hc1 : 1 ≤ cnt [some k, lT.p, rT.p] := by unfold cnt; have := (cnt_bd [lT.p, rT.p] 1).1; exact this
  simp only [List.length_cons, List.length_nil] at hcn
  exact xn_loop (m - 1) (by omega) ⟨top C, _, _, g0, rfl, g2, hS, hA, by rw [show m - 1 = C.length by omega]; exact hU, by omega, by omega, fun _ => by omega, by omega, M⟩
end
end G
end Go.Proofs.Ythfemlhmnjfjiaa
