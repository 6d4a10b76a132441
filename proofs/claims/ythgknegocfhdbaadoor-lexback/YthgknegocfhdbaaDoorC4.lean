/-
  A part of the proof.
-/
import Derived.Test.YthgknegocfhdbaaDoorC3
/-
 Texts: Parse, the program's and the document's, at every text.
-/
namespace Go.Proofs.YthgknegocfhdbaaDoor
open Go.RowKit
def pvk (s : ByteArray) (k : Nat) : Int := pv (s.data.toList.take k)
theorem pvk_z (s : ByteArray) : pvk s 0 = 0 := by unfold pvk pv; simp
theorem pvk_succ (s : ByteArray) (k : Nat) (h : k < s.size) : pvk s (k + 1) = pvk s k * 10 + ((s[k].toNat : Int) - 48) := by
 unfold pvk; rw [take_snoc' s k h, pv_snoc]
theorem pvk_nn {s : ByteArray} (hd : dgs s s.size) : ∀ k, k ≤ s.size → 0 ≤ pvk s k
 | 0, _ => by unfold pvk pv; simp
 | k + 1, h => by
  rw [pvk_succ s k (by omega)]
  have := pvk_nn hd k (by omega)
  have := hd k (by omega) (by omega)
  omega
theorem pvk_le {s : ByteArray} (hd : dgs s s.size) : ∀ d k, k + d = s.size → pvk s k ≤ pvk s s.size
 | 0, k, h => by rw [show k = s.size by omega]; exact Int.le_refl _
 | d + 1, k, h => by
  have a := pvk_le hd d (k + 1) (by omega)
  rw [pvk_succ s k (by omega)] at a
  have := pvk_nn hd k (by omega)
  have := hd k (by omega) (by omega)
  omega
abbrev ez (e : Int) : Value := .tuple #[.agg #[.int .u64 0, .int .u64 0, .int .u64 0, .int .u64 0], .int .i64 e]
def resP (s : ByteArray) : Value := if pvk s s.size < MM then .tuple #[nv (pvk s s.size), .int .i64 0] else ez 7
theorem resP_over {s : ByteArray} (hd : dgs s s.size) {k : Nat} (hlt : k < s.size) (h : ¬ pvk s k * 10 + ((s[k].toNat : Int) - 48) < MM) : resP s = ez 7 := by
 unfold resP
 rw [if_neg]
 have a := pvk_le hd (s.size - (k + 1)) (k + 1) (by omega)
 rw [pvk_succ s k hlt] at a
 omega
theorem resP_ok {s : ByteArray} (h : pvk s s.size < MM) : resP s = .tuple #[nv (pvk s s.size), .int .i64 0] := by unfold resP; rw [if_pos h]
theorem subu8_run {c : Int} (h0 : 48 ≤ c) (h1 : c ≤ 57) (x y : Operand) (w : World) : (do eqGuard .sub 5 x y (.int .u8 c) (.int .u8 48); binOp .sub 5 (.int .u8 c) (.int .u8 48)).run Tryd.prog w = .ok (.int .u8 (c - 48)) w := by
 have e : (do eqGuard .sub 5 x y (.int .u8 c) (.int .u8 48); binOp .sub 5 (.int .u8 c) (.int .u8 48)).run Tryd.prog w = .ok (.int .u8 (IntKind.u8.wrap (c - 48))) w := by kernel_rfl
 have h : IntKind.u8.wrap (c - 48) = c - 48 := by rw [IntKind.wrap_u8]; omega
 rw [e, h]
theorem cv8_run {c : Int} (h0 : 0 ≤ c) (h1 : c ≤ 57) (w : World) : (convert 5 29 (.int .u8 c)).run Tryd.prog w = .ok (.int .u64 c) w := by
 have e : (convert 5 29 (.int .u8 c)).run Tryd.prog w = .ok (.int .u64 (IntKind.u64.wrap c)) w := by kernel_rfl
 have h : IntKind.u64.wrap c = c := by rw [IntKind.wrap_u64]; omega
 rw [e, h]
theorem Ds.one {sp : List Sp} {f : Nat → Value} {w : World} (i : Nat) (h : ∀ q, spNew (spAt sp q) = true → q = i) (h1 : ∀ k, f i = pt k 0 → k < w.heap.size) : Ds sp f w := by
 refine ⟨fun q hq k hk => ?_, fun q r hq hr hne k hk hk2 => ?_⟩
 ·rw [h q hq] at hk; exact h1 k hk
 ·exact hne ((h q hq).trans (h r hr).symm)
theorem parse_no (s : ByteArray) (w : World) (hi : ∀ w, Calls Tryd.prog 71 #[.string s] w fun e w' => e = .returned (.bool false) ∧ Mo w w') : Calls Tryd.prog 61 #[.string s] w fun e w' => e = .returned (ez 10) ∧ Mo w w' := by
 refine w_enter 29 Tryd.func61 Tryd.ntmps61 rfl rfl ?_
 have M : Mo w w := Mo.refl _
 refine w_seq (w_reg ?_)
 refine wl_alloc 31 #[.int .u64 0, .int .u64 0, .int .u64 0, .int .u64 0] rfl (fun _ => by kernel_rfl) rfl ?_
 intro k1 w1 hk hz hq Q1
 have N_k1 : w.heap.size ≤ k1 := by have := M.size; omega
 replace M := M.trans hq
 clear hk hz hq
 refine wl_m (.const (.int .i64 (0))) (.int .i64 (0)) ?_
 refine w_nil (xn_then (w_seq (w_seq (w_reg ?_))))
 refine wl_m (.tmp 0) (.string s) ?_
 refine wl_call 71 [(.tmp 7)] _ [.string s] (.bool false) rfl rfl (fun _ _ => by kernel_rfl) (hi _) rfl ?_
 intro w2 hq
 replace Q1 := Q1.mo hq
 replace M := M.trans hq
 clear hq
 refine wl_un (fun v => Op.unary .not v) (.tmp 8) (.bool false) (.bool true) (fun _ => rfl) rfl (by kernel_rfl) rfl ?_
 refine w_nil (xn_then (w_condT rfl (w_seq (w_reg ?_))))
 refine wl_build 31 [] [] (.agg #[.int .u64 0, .int .u64 0, .int .u64 0, .int .u64 0]) rfl rfl (by kernel_rfl) rfl ?_
 refine wl_st 31 (.tmp 2) (.tmp 10) k1 0 #[.int .u64 0, .int .u64 0, .int .u64 0, .int .u64 0] _ [.int .u64 0, .int .u64 0, .int .u64 0, .int .u64 0] Q1 rfl rfl rfl rfl rfl sz24 rfl rfl rfl ?_
 intro w3 hS Qn
 replace Q1 := Qn
 clear Qn
 replace M := hS.mo _ N_k1 M
 clear hS
 refine wl_m (.const (.int .i64 (10))) (.int .i64 (10)) ?_
 refine w_nil (xn_then (w_ret (xr_then ?_)))
 exact w_ret2 _ _ (.agg #[.int .u64 0, .int .u64 0, .int .u64 0, .int .u64 0]) (.int .i64 (10)) rfl ⟨k1, rfl, (run_row Q1 31 0 4 _ rfl Tryd.underlying31 rfl sz24)⟩ rfl ⟨rfl, M⟩
theorem apd_c (s : ByteArray) (k : Nat) (w : World) {b : Bool} {h : k < s.size} (h0 : 0 ≤ pvk s k) (hv : pvk s k < MM) (h1 : 48 ≤ (s[k].toNat : Int)) (h2 : (s[k].toNat : Int) ≤ 57) (hf : decide (pvk s k * 10 + ((s[k].toNat : Int) - 48) < MM) = b) : Calls Tryd.prog 72 #[nv (pvk s k), .int .u8 (s[k].toNat : Int)] w fun e w' => e = .returned (.tuple #[nv (pvk s k * 10 + ((s[k].toNat : Int) - 48)), .bool b]) ∧ Mo w w' := by
 have := apd_any (pvk s k) (s[k].toNat : Int) w h0 hv h1 h2
 unfold fits at this
 rw [hf] at this
 exact this
theorem pvk_eq {s : ByteArray} {k m : Nat} (hk : k + m = s.size) (h : ¬ k < s.size) : pvk s k = pvk s s.size := by rw [show k = s.size by omega]
theorem pvk_end {s : ByteArray} {k m : Nat} (hk : k + m = s.size) (h : ¬ k < s.size) (hv : pvk s k < MM) : pvk s s.size < MM := by rw [← pvk_eq hk h]; exact hv
theorem parse_yes2 (s : ByteArray) (w : World) (hs : s.size ≤ maxLen) (hT : dgs s s.size) (hi : ∀ w, Calls Tryd.prog 71 #[.string s] w fun e w' => e = .returned (.bool true) ∧ Mo w w') : Calls Tryd.prog 61 #[.string s] w fun e w' => e = .returned (resP s) ∧ Mo w w' := by
 refine w_enter 29 Tryd.func61 Tryd.ntmps61 rfl rfl ?_
 have M : Mo w w := Mo.refl _
 refine w_seq (w_reg ?_)
 refine wl_alloc 31 #[.int .u64 0, .int .u64 0, .int .u64 0, .int .u64 0] rfl (fun _ => by kernel_rfl) rfl ?_
 intro k1 w1 hk hz hq Q1
 have N_k1 : w.heap.size ≤ k1 := by have := M.size; omega
 replace M := M.trans hq
 clear hk hz hq
 refine wl_m (.const (.int .i64 (0))) (.int .i64 (0)) ?_
 refine w_nil (xn_then (w_seq (w_seq (w_reg ?_))))
 refine wl_m (.tmp 0) (.string s) ?_
 refine wl_call 71 [(.tmp 7)] _ [.string s] (.bool true) rfl rfl (fun _ _ => by kernel_rfl) (hi _) rfl ?_
 intro w2 hq
 replace Q1 := Q1.mo hq
 replace M := M.trans hq
 clear hq
 refine wl_un (fun v => Op.unary .not v) (.tmp 8) (.bool true) (.bool false) (fun _ => rfl) rfl (by kernel_rfl) rfl ?_
 refine w_nil (xn_then (w_condF rfl (w_skip (xn_then (w_seq (w_reg ?_))))))
 refine wl_alloc 31 #[.int .u64 0, .int .u64 0, .int .u64 0, .int .u64 0] rfl (fun _ => by kernel_rfl) rfl ?_
 intro k2 w3 hk hz hq Q2
 have ne_k1_k2 : k1 ≠ k2 := by have := Q1.lt; omega
 have N_k2 : w.heap.size ≤ k2 := by have := M.size; omega
 replace Q1 := Q1.mo hq
 replace M := M.trans hq
 clear hk hz hq
 refine w_nil (xn_then (w_seq (w_seq (w_reg ?_))))
 refine wl_m (.tmp 0) (.string s) ?_
 refine wl_val (.int .i64 ((s.size : Int))) (len_run _ _ s rfl _ _ _ _ _ _) rfl ?_
 refine wl_m (.const (.int .i64 (0))) (.int .i64 (0)) ?_
 refine w_nil (xn_then (w_block ?_))
 refine w_loop (fun m l w1 => ∃ k : Nat, k + m = s.size ∧ look l 0 = .string s ∧ look l 12 = .int .i64 (s.size : Int) ∧ look l 13 = .int .i64 (k : Int) ∧ look l 2 = pt k1 0 ∧ look l 4 = pt k2 0 ∧ At w1 k1 [.int .u64 0, .int .u64 0, .int .u64 0, .int .u64 0] ∧ At w1 k2 (nvli (pvk s k)) ∧ pvk s k < MM ∧ Mo w w1) s.size ⟨0, by omega, rfl, rfl, rfl, rfl, rfl, Q1, Q2, by rw [pvk_z]; decide, M⟩ ?_
 clear M Q1 Q2
 rintro m l wl ⟨k, hk, e0, e12, e13, e2, e4, Q1, Q2, hv, M⟩
 have hv0 := pvk_nn hT k (by omega)
 by_cases hlt : k < s.size
 ·have hl : decide ((k : Int) < (s.size : Int)) = true := decide_eq_true (by omega)
  have hc := hT k hlt hlt
  cases hf : decide (pvk s k * 10 + ((s[k].toNat : Int) - 48) < MM) with
  | true =>
   refine w_seq (w_reg ?_)
   refine wl_bin (fun x y => do eqGuard .lss 3 (.tmp 13) (.tmp 12) x y; binOp .lss 3 x y) (.tmp 13) (.tmp 12) (.int .i64 ((k : Int))) (.int .i64 ((s.size : Int))) (.bool true) (fun _ => rfl) e13 e12 (lt3_run hl _ _ _) rfl ?_
   refine w_nil (xn_then (w_seq (w_condT rfl (w_skip (xn_then (w_seq (w_block (w_seq (w_reg ?_)))))))))
   refine wl_mv (.tmp 13) (.int .i64 ((k : Int))) (fun _ => rfl) e13 rfl ?_
   refine wl_m (.tmp 15) (.int .i64 ((k : Int))) ?_
   refine w_nil (xn_then (w_seq (w_reg ?_)))
   refine wl_m (.const (.bool false)) (.bool false) ?_
   refine w_nil (xn_then (w_seq ?_))
   refine w_any 8 [.inl (nv (pvk s k)), .inl (.string s), .inl (.int .i64 ((k : Int))), .inl (.int .u8 (s[k].toNat : Int)), .inl (.tuple #[nv (pvk s k * 10 + ((s[k].toNat : Int) - 48)), .bool true]), .inl (.tuple #[nv (pvk s k * 10 + ((s[k].toNat : Int) - 48)), .bool true]), .inl (nv (pvk s k * 10 + ((s[k].toNat : Int) - 48))), .inl (.bool true)] [7] (by kernel_rfl) (by kernel_rfl) (by kernel_rfl) (by kernel_rfl) rfl (by kernel_rfl) (by kernel_rfl) (late_cons ⟨_, _, rfl, rfl, fun _ _ _ _ h => h, fun f hd => ⟨rfl, la_un (fun v => Instr.extract v 1) (.tmp 16) (.tuple #[nv (pvk s k * 10 + ((s[k].toNat : Int) - 48)), .bool true]) (.bool true) (fun _ => rfl) (hd 5 rfl _ rfl) (fun w => by kernel_rfl)⟩⟩ late_nil) ?_ ?_ ?_
   ·exact Ds.none rfl
   ·refine ea_cons ?_ (ea_cons ?_ (ea_cons ?_ (ea_cons ?_ (ea_cons ?_ (ea_cons ?_ (ea_cons ?_ (ea_cons ?_ (ea_nil))))))))
    ·exact og_eq _ rfl (fun f wf hq hd K hK => have Q2 := Q2.mo hq; go_run rfl (wo_load 31 (.tmp 4) (pt k2 0) (nv (pvk s k)) rfl e4 (run_row Q2 31 0 4 (nvli (pvk s k)) rfl Tryd.underlying31 rfl sz24) (hK _ (Mo.refl _))))
    ·exact og_eq _ rfl (fun f wf hq hd K hK => go_run rfl (wo_mv (.tmp 0) (.string s) (fun _ => rfl) e0 (hK _ (Mo.refl _))))
    ·exact og_eq _ rfl (fun f wf hq hd K hK => go_run rfl (wo_mv (.tmp 5) (.int .i64 ((k : Int))) (fun _ => rfl) rfl (hK _ (Mo.refl _))))
    ·exact og_eq _ rfl (fun f wf hq hd K hK => go_run rfl (wo_bin (fun x y => Instr.index 9 x y) (.tmp 18) (.tmp 19) (.string s) (.int .i64 ((k : Int))) (.int .u8 (s[k].toNat : Int)) (fun _ => rfl) (hd 1 rfl) (hd 2 rfl) (idx_s s k hlt _) (hK _ (Mo.refl _))))
    ·exact og_eq _ rfl (fun f wf hq hd K hK => go_run rfl (wo_call 72 [(.tmp 17), (.tmp 20)] _ [nv (pvk s k), .int .u8 (s[k].toNat : Int)] (.tuple #[nv (pvk s k * 10 + ((s[k].toNat : Int) - 48)), .bool true]) rfl (li2 (hd 0 rfl) (hd 3 rfl)) (fun _ _ => by kernel_rfl) (apd_c s k _ hv0 hv hc.1 hc.2 hf) hK))
    ·exact og_eq _ rfl (fun f wf hq hd K hK => go_run rfl (wo_mv (.tmp 21) (.tuple #[nv (pvk s k * 10 + ((s[k].toNat : Int) - 48)), .bool true]) (fun _ => rfl) (hd 4 rfl) (hK _ (Mo.refl _))))
    ·exact og_eq _ rfl (fun f wf hq hd K hK => go_run rfl (wo_un (fun v => Instr.extract v 0) (.tmp 16) (.tuple #[nv (pvk s k * 10 + ((s[k].toNat : Int) - 48)), .bool true]) (nv (pvk s k * 10 + ((s[k].toNat : Int) - 48))) (fun _ => rfl) (hd 5 rfl) (by kernel_rfl) (hK _ (Mo.refl _))))
    ·exact og_eq _ rfl (fun f wf hq hd K hK => go_run rfl (wo_un (fun v => Instr.extract v 1) (.tmp 16) (.tuple #[nv (pvk s k * 10 + ((s[k].toNat : Int) - 48)), .bool true]) (.bool true) (fun _ => rfl) (hd 5 rfl) (by kernel_rfl) (hK _ (Mo.refl _))))
   intro kf51 w51 hq hR hne
   replace Q1 := Q1.mo hq
   replace Q2 := Q2.mo hq
   replace M := M.trans hq
   clear hq hR hne
   refine wl_st 31 (.tmp 4) (.tmp 22) k2 0 (nvar (pvk s k * 10 + ((s[k].toNat : Int) - 48))) (nvli (pvk s k)) (nvli (pvk s k * 10 + ((s[k].toNat : Int) - 48))) Q2 rfl rfl e4 rfl rfl sz24 rfl rfl rfl ?_
   intro w52 hS Qn
   replace Q2 := Qn
   clear Qn
   replace Q1 := hS.other _ _ ne_k1_k2 Q1
   replace M := hS.mo _ N_k2 M
   clear hS
   refine wl_m (.tmp 23) (.bool true) ?_
   refine w_nil (xn_then (w_seq (w_reg ?_)))
   refine wl_m (.tmp 6) (.bool true) ?_
   refine wl_un (fun v => Op.unary .not v) (.tmp 24) (.bool true) (.bool false) (fun _ => rfl) rfl (by kernel_rfl) rfl ?_
   refine w_nil (xn_then (w_condF rfl (w_skip (xn_blk (xn_then (w_reg ?_))))))
   refine wl_bin (fun x y => do eqGuard .add 3 (.tmp 13) (.const (.int .i64 (1))) x y; binOp .add 3 x y) (.tmp 13) (.const (.int .i64 (1))) (.int .i64 ((k : Int))) (.int .i64 (1)) (.int .i64 (((k + 1 : Nat) : Int))) (fun _ => rfl) e13 rfl (add1_run (by unfold maxLen at hs; omega) _ _ _) rfl ?_
   refine wl_m (.tmp 27) (.int .i64 (((k + 1 : Nat) : Int))) ?_
   refine w_nil ?_
   exact xn_loop (s.size - (k + 1)) (by omega) ⟨k + 1, by omega, e0, e12, rfl, e2, e4, Q1, by rw [pvk_succ s k hlt]; exact Q2, by rw [pvk_succ s k hlt]; exact of_decide_eq_true hf, M⟩
  | false =>
   refine w_seq (w_reg ?_)
   refine wl_bin (fun x y => do eqGuard .lss 3 (.tmp 13) (.tmp 12) x y; binOp .lss 3 x y) (.tmp 13) (.tmp 12) (.int .i64 ((k : Int))) (.int .i64 ((s.size : Int))) (.bool true) (fun _ => rfl) e13 e12 (lt3_run hl _ _ _) rfl ?_
   refine w_nil (xn_then (w_seq (w_condT rfl (w_skip (xn_then (w_seq (w_block (w_seq (w_reg ?_)))))))))
   refine wl_mv (.tmp 13) (.int .i64 ((k : Int))) (fun _ => rfl) e13 rfl ?_
   refine wl_m (.tmp 15) (.int .i64 ((k : Int))) ?_
   refine w_nil (xn_then (w_seq (w_reg ?_)))
   refine wl_m (.const (.bool false)) (.bool false) ?_
   refine w_nil (xn_then (w_seq ?_))
   refine w_any 8 [.inl (nv (pvk s k)), .inl (.string s), .inl (.int .i64 ((k : Int))), .inl (.int .u8 (s[k].toNat : Int)), .inl (.tuple #[nv (pvk s k * 10 + ((s[k].toNat : Int) - 48)), .bool false]), .inl (.tuple #[nv (pvk s k * 10 + ((s[k].toNat : Int) - 48)), .bool false]), .inl (nv (pvk s k * 10 + ((s[k].toNat : Int) - 48))), .inl (.bool false)] [7] (by kernel_rfl) (by kernel_rfl) (by kernel_rfl) (by kernel_rfl) rfl (by kernel_rfl) (by kernel_rfl) (late_cons ⟨_, _, rfl, rfl, fun _ _ _ _ h => h, fun f hd => ⟨rfl, la_un (fun v => Instr.extract v 1) (.tmp 16) (.tuple #[nv (pvk s k * 10 + ((s[k].toNat : Int) - 48)), .bool false]) (.bool false) (fun _ => rfl) (hd 5 rfl _ rfl) (fun w => by kernel_rfl)⟩⟩ late_nil) ?_ ?_ ?_
   ·exact Ds.none rfl
   ·refine ea_cons ?_ (ea_cons ?_ (ea_cons ?_ (ea_cons ?_ (ea_cons ?_ (ea_cons ?_ (ea_cons ?_ (ea_cons ?_ (ea_nil))))))))
    ·exact og_eq _ rfl (fun f wf hq hd K hK => have Q2 := Q2.mo hq; go_run rfl (wo_load 31 (.tmp 4) (pt k2 0) (nv (pvk s k)) rfl e4 (run_row Q2 31 0 4 (nvli (pvk s k)) rfl Tryd.underlying31 rfl sz24) (hK _ (Mo.refl _))))
    ·exact og_eq _ rfl (fun f wf hq hd K hK => go_run rfl (wo_mv (.tmp 0) (.string s) (fun _ => rfl) e0 (hK _ (Mo.refl _))))
    ·exact og_eq _ rfl (fun f wf hq hd K hK => go_run rfl (wo_mv (.tmp 5) (.int .i64 ((k : Int))) (fun _ => rfl) rfl (hK _ (Mo.refl _))))
    ·exact og_eq _ rfl (fun f wf hq hd K hK => go_run rfl (wo_bin (fun x y => Instr.index 9 x y) (.tmp 18) (.tmp 19) (.string s) (.int .i64 ((k : Int))) (.int .u8 (s[k].toNat : Int)) (fun _ => rfl) (hd 1 rfl) (hd 2 rfl) (idx_s s k hlt _) (hK _ (Mo.refl _))))
    ·exact og_eq _ rfl (fun f wf hq hd K hK => go_run rfl (wo_call 72 [(.tmp 17), (.tmp 20)] _ [nv (pvk s k), .int .u8 (s[k].toNat : Int)] (.tuple #[nv (pvk s k * 10 + ((s[k].toNat : Int) - 48)), .bool false]) rfl (li2 (hd 0 rfl) (hd 3 rfl)) (fun _ _ => by kernel_rfl) (apd_c s k _ hv0 hv hc.1 hc.2 hf) hK))
    ·exact og_eq _ rfl (fun f wf hq hd K hK => go_run rfl (wo_mv (.tmp 21) (.tuple #[nv (pvk s k * 10 + ((s[k].toNat : Int) - 48)), .bool false]) (fun _ => rfl) (hd 4 rfl) (hK _ (Mo.refl _))))
    ·exact og_eq _ rfl (fun f wf hq hd K hK => go_run rfl (wo_un (fun v => Instr.extract v 0) (.tmp 16) (.tuple #[nv (pvk s k * 10 + ((s[k].toNat : Int) - 48)), .bool false]) (nv (pvk s k * 10 + ((s[k].toNat : Int) - 48))) (fun _ => rfl) (hd 5 rfl) (by kernel_rfl) (hK _ (Mo.refl _))))
    ·exact og_eq _ rfl (fun f wf hq hd K hK => go_run rfl (wo_un (fun v => Instr.extract v 1) (.tmp 16) (.tuple #[nv (pvk s k * 10 + ((s[k].toNat : Int) - 48)), .bool false]) (.bool false) (fun _ => rfl) (hd 5 rfl) (by kernel_rfl) (hK _ (Mo.refl _))))
   intro kf51 w51 hq hR hne
   replace Q1 := Q1.mo hq
   replace Q2 := Q2.mo hq
   replace M := M.trans hq
   clear hq hR hne
   refine wl_st 31 (.tmp 4) (.tmp 22) k2 0 (nvar (pvk s k * 10 + ((s[k].toNat : Int) - 48))) (nvli (pvk s k)) (nvli (pvk s k * 10 + ((s[k].toNat : Int) - 48))) Q2 rfl rfl e4 rfl rfl sz24 rfl rfl rfl ?_
   intro w52 hS Qn
   replace Q2 := Qn
   clear Qn
   replace Q1 := hS.other _ _ ne_k1_k2 Q1
   replace M := hS.mo _ N_k2 M
   clear hS
   refine wl_m (.tmp 23) (.bool false) ?_
   refine w_nil (xn_then (w_seq (w_reg ?_)))
   refine wl_m (.tmp 6) (.bool false) ?_
   refine wl_un (fun v => Op.unary .not v) (.tmp 24) (.bool false) (.bool true) (fun _ => rfl) rfl (by kernel_rfl) rfl ?_
   refine w_nil (xn_then (w_condT rfl (w_seq (w_reg ?_))))
   refine wl_build 31 [] [] (.agg #[.int .u64 0, .int .u64 0, .int .u64 0, .int .u64 0]) rfl rfl (by kernel_rfl) rfl ?_
   refine wl_st 31 (.tmp 2) (.tmp 26) k1 0 #[.int .u64 0, .int .u64 0, .int .u64 0, .int .u64 0] _ [.int .u64 0, .int .u64 0, .int .u64 0, .int .u64 0] Q1 rfl rfl e2 rfl rfl sz24 rfl rfl rfl ?_
   intro w53 hS Qn
   replace Q1 := Qn
   clear Qn
   replace Q2 := hS.other _ _ ne_k1_k2.symm Q2
   replace M := hS.mo _ N_k1 M
   clear hS
   refine wl_m (.const (.int .i64 (7))) (.int .i64 (7)) ?_
   refine w_nil (xn_then (w_ret (xr_blk (xr_then (xr_then (xr_blk (xr_then ?_)))))))
   exact w_ret2 _ _ (.agg #[.int .u64 0, .int .u64 0, .int .u64 0, .int .u64 0]) (.int .i64 (7)) rfl ⟨k1, e2, (run_row Q1 31 0 4 _ rfl Tryd.underlying31 rfl sz24)⟩ rfl ⟨by rw [resP_over hT hlt (of_decide_eq_false hf)], M⟩
 ·have hl : decide ((k : Int) < (s.size : Int)) = false := decide_eq_false (by omega)
  refine w_seq (w_reg ?_)
  refine wl_bin (fun x y => do eqGuard .lss 3 (.tmp 13) (.tmp 12) x y; binOp .lss 3 x y) (.tmp 13) (.tmp 12) (.int .i64 ((k : Int))) (.int .i64 ((s.size : Int))) (.bool false) (fun _ => rfl) e13 e12 (lt3_run hl _ _ _) rfl ?_
  refine w_nil (xn_then (w_seq (w_condF rfl (w_exit (xx_then (xx_then (xx_blk (xn_then (w_seq (w_reg ?_))))))))))
  refine wl_load 31 (.tmp 4) (pt k2 0) (nv (pvk s k)) rfl e4 (run_row Q2 31 0 4 (nvli (pvk s k)) rfl Tryd.underlying31 rfl sz24) rfl ?_
  refine wl_st 31 (.tmp 2) (.tmp 28) k1 0 (nvar (pvk s k)) _ (nvli (pvk s k)) Q1 rfl rfl e2 rfl rfl sz24 rfl rfl rfl ?_
  intro w51 hS Qn
  replace Q1 := Qn
  clear Qn
  replace Q2 := hS.other _ _ ne_k1_k2.symm Q2
  replace M := hS.mo _ N_k1 M
  clear hS
  refine wl_m (.const (.int .i64 (0))) (.int .i64 (0)) ?_
  refine w_nil (xn_then (w_ret ?_))
  exact w_ret2 _ _ (nv (pvk s k)) (.int .i64 (0)) rfl ⟨k1, e2, (run_row Q1 31 0 4 (nvli (pvk s k)) rfl Tryd.underlying31 rfl sz24)⟩ rfl ⟨by rw [resP_ok (pvk_end hk hlt hv), ← pvk_eq hk hlt], M⟩
theorem parse_n (s : ByteArray) (w : World) [Decidable (isT s)] (hs : s.size ≤ maxLen) : Calls Tryd.prog 61 #[.string s] w fun e w' => e = .returned (if isT s then resP s else ez 10) ∧ Mo w w' := by
 have hi := fun w => isd_n s w hs
 by_cases h : isT s
 ·rw [if_pos h]
  rw [decide_eq_true h] at hi
  exact parse_yes2 s w hs h.2.2 hi
 ·rw [if_neg h]
  rw [decide_eq_false h] at hi
  exact parse_no s w hi
theorem rparse_emp (s : ByteArray) (w : World) (h0 : s.toList.isEmpty = true) : Calls Tryd.prog 51 #[.string s] w fun e w' => e = .returned (ez 10) ∧ Mo w w' := by
 refine w_enter 77 Tryd.func51 Tryd.ntmps51 rfl rfl ?_
 have M : Mo w w := Mo.refl _
 refine w_seq (w_reg ?_)
 refine wl_alloc 31 #[.int .u64 0, .int .u64 0, .int .u64 0, .int .u64 0] rfl (fun _ => by kernel_rfl) rfl ?_
 intro k1 w1 hk hz hq Q1
 have N_k1 : w.heap.size ≤ k1 := by have := M.size; omega
 replace M := M.trans hq
 clear hk hz hq
 refine wl_m (.const (.int .i64 (0))) (.int .i64 (0)) ?_
 refine w_nil (xn_then (w_seq (w_seq (w_reg ?_))))
 refine wl_m (.tmp 0) (.string s) ?_
 refine wl_b .eql 9 (.tmp 11) (.const (.string ⟨#[]⟩)) (.string s) (.string ⟨#[]⟩) (.bool true) (eqe_run h0 _ _ _) ?_
 refine wl_m (.tmp 12) (.bool true) ?_
 refine wl_skip rfl (wl_skip rfl (wl_skip rfl (wl_skip rfl (wl_skip rfl (wl_skip rfl (wl_skip rfl (wl_skip rfl ?_)))))))
 refine wl_pick (.tmp 13) (.const (.bool true)) (.tmp 21) true (.bool true) (fun _ => rfl) rfl rfl rfl ?_
 refine w_nil (xn_then (w_condT rfl (w_seq (w_reg ?_))))
 refine wl_build 31 [] [] (.agg #[.int .u64 0, .int .u64 0, .int .u64 0, .int .u64 0]) rfl rfl (by kernel_rfl) rfl ?_
 refine wl_st 31 (.tmp 2) (.tmp 23) k1 0 #[.int .u64 0, .int .u64 0, .int .u64 0, .int .u64 0] _ [.int .u64 0, .int .u64 0, .int .u64 0, .int .u64 0] Q1 rfl rfl rfl rfl rfl sz24 rfl rfl rfl ?_
 intro w2 hS Qn
 replace Q1 := Qn
 clear Qn
 replace M := hS.mo _ N_k1 M
 clear hS
 refine wl_m (.const (.int .i64 (10))) (.int .i64 (10)) ?_
 refine w_nil (xn_then (w_ret (xr_then ?_)))
 exact w_ret2 _ _ (.agg #[.int .u64 0, .int .u64 0, .int .u64 0, .int .u64 0]) (.int .i64 (10)) rfl ⟨k1, rfl, (run_row Q1 31 0 4 _ rfl Tryd.underlying31 rfl sz24)⟩ rfl ⟨rfl, M⟩
theorem rparse_lead (s : ByteArray) (w : World) (h0 : s.toList.isEmpty = false) (hp : 0 < s.size) (h1 : decide ((s.size : Int) > 1) = true) (hz : ((s[0].toNat : Int) == 48) = true) : Calls Tryd.prog 51 #[.string s] w fun e w' => e = .returned (ez 10) ∧ Mo w w' := by
 refine w_enter 77 Tryd.func51 Tryd.ntmps51 rfl rfl ?_
 have M : Mo w w := Mo.refl _
 refine w_seq (w_reg ?_)
 refine wl_alloc 31 #[.int .u64 0, .int .u64 0, .int .u64 0, .int .u64 0] rfl (fun _ => by kernel_rfl) rfl ?_
 intro k1 w1 hk hz hq Q1
 have N_k1 : w.heap.size ≤ k1 := by have := M.size; omega
 replace M := M.trans hq
 clear hk hz hq
 refine wl_m (.const (.int .i64 (0))) (.int .i64 (0)) ?_
 refine w_nil (xn_then (w_seq (w_seq (w_reg ?_))))
 refine wl_m (.tmp 0) (.string s) ?_
 refine wl_b .eql 9 (.tmp 11) (.const (.string ⟨#[]⟩)) (.string s) (.string ⟨#[]⟩) (.bool false) (eqe_run h0 _ _ _) ?_
 refine wl_m (.tmp 12) (.bool false) ?_
 refine wl_m (.tmp 0) (.string s) ?_
 refine wl_bin (fun x y => Instr.index 9 x y) (.tmp 14) (.const (.int .i64 (0))) (.string s) (.int .i64 (0)) (.int .u8 (s[0].toNat : Int)) (fun _ => rfl) rfl rfl (idx_0 s hp _) rfl ?_
 refine wl_b .eql 5 (.tmp 15) (.const (.int .u8 (48))) (.int .u8 (s[0].toNat : Int)) (.int .u8 (48)) (.bool true) (eq5_run hz _ _ _) ?_
 refine wl_m (.tmp 16) (.bool true) ?_
 refine wl_m (.tmp 0) (.string s) ?_
 refine wl_val (.int .i64 ((s.size : Int))) (len_run _ _ s rfl _ _ _ _ _ _) rfl ?_
 refine wl_b .gtr 3 (.tmp 19) (.const (.int .i64 (1))) (.int .i64 ((s.size : Int))) (.int .i64 (1)) (.bool true) (gt3_run h1 _ _ _) ?_
 refine wl_pick (.tmp 17) (.tmp 20) (.const (.bool false)) true (.bool true) (fun _ => rfl) rfl rfl rfl ?_
 refine wl_pick (.tmp 13) (.const (.bool true)) (.tmp 21) false (.bool true) (fun _ => rfl) rfl rfl rfl ?_
 refine w_nil (xn_then (w_condT rfl (w_seq (w_reg ?_))))
 refine wl_build 31 [] [] (.agg #[.int .u64 0, .int .u64 0, .int .u64 0, .int .u64 0]) rfl rfl (by kernel_rfl) rfl ?_
 refine wl_st 31 (.tmp 2) (.tmp 23) k1 0 #[.int .u64 0, .int .u64 0, .int .u64 0, .int .u64 0] _ [.int .u64 0, .int .u64 0, .int .u64 0, .int .u64 0] Q1 rfl rfl rfl rfl rfl sz24 rfl rfl rfl ?_
 intro w2 hS Qn
 replace Q1 := Qn
 clear Qn
 replace M := hS.mo _ N_k1 M
 clear hS
 refine wl_m (.const (.int .i64 (10))) (.int .i64 (10)) ?_
 refine w_nil (xn_then (w_ret (xr_then ?_)))
 exact w_ret2 _ _ (.agg #[.int .u64 0, .int .u64 0, .int .u64 0, .int .u64 0]) (.int .i64 (10)) rfl ⟨k1, rfl, (run_row Q1 31 0 4 _ rfl Tryd.underlying31 rfl sz24)⟩ rfl ⟨rfl, M⟩
theorem dgs_end {s : ByteArray} {k m : Nat} (hk : k + m = s.size) (h : ¬ k < s.size) (hd : dgs s k) : dgs s s.size := by rw [show s.size = k by omega]; exact hd
theorem npt {v : Value} {k : Nat} (h : isPt v = false) (e : v = pt k 0) : False := by rw [e] at h; cases h
theorem hi0z {X : Int} (h0 : 0 ≤ X) (h : X < MM) : (l0 (X / MM) == 0 && (l1 (X / MM) == 0 && (l2 (X / MM) == 0 && l3 (X / MM) == 0))) = true := by
 rw [Int.ediv_eq_zero_of_lt h0 h]; rfl
theorem hi1z {X : Int} (h : MM ≤ X) (h2 : X < MM * MM) : (l0 (X / MM) == 0 && (l1 (X / MM) == 0 && (l2 (X / MM) == 0 && l3 (X / MM) == 0))) = false := by
 have p : (0 : Int) < MM := by decide
 have a : 1 ≤ X / MM := Int.le_ediv_of_mul_le p (by omega)
 rw [zb (by omega) (Int.ediv_lt_of_lt_mul p h2)]; exact decide_eq_false (by omega)
theorem rsum_any (A d : Int) : ∃ (Z : Int) (o : Bool), ∀ w, Calls Tryd.prog 65 #[nv A, nv d] w fun e w' => e = .returned (.tuple #[nv Z, .bool o]) ∧ Mo w w' := ⟨_, _, fun w => radd_m A d w⟩
theorem rsum_ok (A d Z : Int) (w : World) (h0 : 0 ≤ A) (hd : 0 ≤ d) (hZ : Z = A + d) (h : A < MM) (h2 : A + d < MM) : Calls Tryd.prog 65 #[nv A, nv d] w fun e w' => e = .returned (.tuple #[nv Z, .bool false]) ∧ Mo w w' := by
 have := radd_n A d w h0 h hd (by omega)
 have e : ov (A + d) = false := decide_eq_false (by omega)
 rw [e, ← hZ] at this
 exact this
theorem rsum_ov (A d : Int) (h0 : 0 ≤ A) (hd : 0 ≤ d) (hd2 : d < 10) (h : A < MM) (h2 : ¬ A + d < MM) : ∃ Z : Int, ∀ w, Calls Tryd.prog 65 #[nv A, nv d] w fun e w' => e = .returned (.tuple #[nv Z, .bool true]) ∧ Mo w w' := ⟨A + d, fun w => by
 have := radd_n A d w h0 h hd (by unfold MM; omega)
 have e : ov (A + d) = true := decide_eq_true (by omega)
 rw [e] at this
 exact this⟩
theorem pvk_big {s : ByteArray} (hp : 0 < s.size) (hd : dgs s s.size) (hz : (s[0].toNat : Int) ≠ 48) : ∀ k, k + 1 ≤ s.size → (10 : Int) ^ k ≤ pvk s (k + 1)
 | 0, _ => by
  rw [pvk_succ s 0 hp]
  have := hd 0 hp hp
  have e : pvk s 0 = 0 := by unfold pvk pv; simp
  rw [e]; simp; omega
 | k + 1, h => by
  rw [pvk_succ s (k + 1) (by omega), Int.pow_succ]
  have := pvk_big hp hd hz k (by omega)
  have := hd (k + 1) (by omega) (by omega)
  omega
theorem resP_long {s : ByteArray} (hp : 0 < s.size) (hd : dgs s s.size) (hz : s.size > 1 → (s[0].toNat : Int) ≠ 48) (h : s.size > 78) : resP s = ez 7 := by
 unfold resP
 rw [if_neg]
 have a : (10 : Int) ^ 78 ≤ pvk s 79 := pvk_big hp hd (hz (by omega)) 78 (by omega)
 have b := pvk_le hd (s.size - 79) 79 (by omega)
 have c : MM ≤ (10 : Int) ^ 78 := by decide
 omega
theorem rparse_a (s : ByteArray) (w : World) [Decidable (isT s)] (hs : s.size ≤ maxLen) (h0 : s.toList.isEmpty = false) (hp : 0 < s.size) (hlead : ¬ (s.size > 1 ∧ (s[0].toNat : Int) = 48)) (hz0 : s.size > 1 → (s[0].toNat : Int) ≠ 48) (h1 : ((s[0].toNat : Int) == 48) = false) : Calls Tryd.prog 51 #[.string s] w fun e w' => e = .returned (if isT s then resP s else ez 10) ∧ Mo w w' := by
 refine w_enter 77 Tryd.func51 Tryd.ntmps51 rfl rfl ?_
 have M : Mo w w := Mo.refl _
 refine w_seq (w_reg ?_)
 refine wl_alloc 31 #[.int .u64 0, .int .u64 0, .int .u64 0, .int .u64 0] rfl (fun _ => by kernel_rfl) rfl ?_
 intro k1 w1 hk hz hq Q1
 have N_k1 : w.heap.size ≤ k1 := by have := M.size; omega
 replace M := M.trans hq
 clear hk hz hq
 refine wl_m (.const (.int .i64 (0))) (.int .i64 (0)) ?_
 refine w_nil (xn_then (w_seq (w_seq (w_reg ?_))))
 refine wl_m (.tmp 0) (.string s) ?_
 refine wl_b .eql 9 (.tmp 11) (.const (.string ⟨#[]⟩)) (.string s) (.string ⟨#[]⟩) (.bool false) (eqe_run h0 _ _ _) ?_
 refine wl_m (.tmp 12) (.bool false) ?_
 refine wl_m (.tmp 0) (.string s) ?_
 refine wl_bin (fun x y => Instr.index 9 x y) (.tmp 14) (.const (.int .i64 (0))) (.string s) (.int .i64 (0)) (.int .u8 (s[0].toNat : Int)) (fun _ => rfl) rfl rfl (idx_0 s hp _) rfl ?_
 refine wl_b .eql 5 (.tmp 15) (.const (.int .u8 (48))) (.int .u8 (s[0].toNat : Int)) (.int .u8 (48)) (.bool false) (eq5_run h1 _ _ _) ?_
 refine wl_m (.tmp 16) (.bool false) ?_
 refine wl_skip rfl (wl_skip rfl (wl_skip rfl ?_))
 refine wl_pick (.tmp 17) (.tmp 20) (.const (.bool false)) false (.bool false) (fun _ => rfl) rfl rfl rfl ?_
 refine wl_pick (.tmp 13) (.const (.bool true)) (.tmp 21) false (.bool false) (fun _ => rfl) rfl rfl rfl ?_
 refine w_nil (xn_then (w_condF rfl (w_skip (xn_then (w_seq (w_seq (w_reg ?_)))))))
 refine wl_m (.const (.int .i64 (0))) (.int .i64 (0)) ?_
 refine w_nil (xn_then (w_block ?_))
 refine w_loop (fun m l w1 => ∃ k : Nat, k + m = s.size ∧ look l 0 = .string s ∧ look l 4 = .int .i64 (k : Int) ∧ look l 2 = pt k1 0 ∧ At w1 k1 [.int .u64 0, .int .u64 0, .int .u64 0, .int .u64 0] ∧ dgs s k ∧ Mo w w1 ∧ (isPt (look l 7) = false ∧ isPt (look l 8) = false ∧ isPt (look l 9) = false)) s.size ⟨0, by omega, rfl, rfl, rfl, Q1, fun j _ h => absurd h (Nat.not_lt_zero _), M, rfl, rfl, rfl⟩ ?_
 clear M Q1
 rintro m l wl ⟨k, hk, e0, e4, e2, Q1, hd, M, i7, i8, i9⟩
 by_cases hlt : k < s.size
 ·have hl : decide ((k : Int) < (s.size : Int)) = true := decide_eq_true (by omega)
  cases ha : decide ((s[k].toNat : Int) < 48) with
  | true =>
   refine w_seq (w_seq (w_reg ?_))
   refine wl_mv (.tmp 4) (.int .i64 ((k : Int))) (fun _ => rfl) e4 rfl ?_
   refine wl_mv (.tmp 0) (.string s) (fun _ => rfl) e0 rfl ?_
   refine wl_val (.int .i64 ((s.size : Int))) (len_run _ _ s rfl _ _ _ _ _ _) rfl ?_
   refine wl_b .lss 3 (.tmp 24) (.tmp 26) (.int .i64 ((k : Int))) (.int .i64 ((s.size : Int))) (.bool true) (lt3_run hl _ _ _) ?_
   refine w_nil (xn_then (w_condT rfl (w_skip (xn_then (w_seq (w_block (w_seq (w_reg ?_))))))))
   refine wl_mv (.tmp 0) (.string s) (fun _ => rfl) e0 rfl ?_
   refine wl_mv (.tmp 4) (.int .i64 ((k : Int))) (fun _ => rfl) e4 rfl ?_
   refine wl_bin (fun x y => Instr.index 9 x y) (.tmp 30) (.tmp 31) (.string s) (.int .i64 ((k : Int))) (.int .u8 (s[k].toNat : Int)) (fun _ => rfl) rfl rfl (idx_s s k hlt _) rfl ?_
   refine wl_b .lss 5 (.tmp 32) (.const (.int .u8 (48))) (.int .u8 (s[k].toNat : Int)) (.int .u8 (48)) (.bool true) (ls5 ha _ _ _) ?_
   refine wl_m (.tmp 33) (.bool true) ?_
   refine wl_skip rfl (wl_skip rfl (wl_skip rfl (wl_skip rfl ?_)))
   refine wl_pick (.tmp 34) (.const (.bool true)) (.tmp 38) true (.bool true) (fun _ => rfl) rfl rfl rfl ?_
   refine w_nil (xn_then (w_condT rfl (w_seq (w_reg ?_))))
   refine wl_build 31 [] [] (.agg #[.int .u64 0, .int .u64 0, .int .u64 0, .int .u64 0]) rfl rfl (by kernel_rfl) rfl ?_
   refine wl_st 31 (.tmp 2) (.tmp 40) k1 0 #[.int .u64 0, .int .u64 0, .int .u64 0, .int .u64 0] _ [.int .u64 0, .int .u64 0, .int .u64 0, .int .u64 0] Q1 rfl rfl e2 rfl rfl sz24 rfl rfl rfl ?_
   intro w21 hS Qn
   replace Q1 := Qn
   clear Qn
   replace M := hS.mo _ N_k1 M
   clear hS
   refine wl_m (.const (.int .i64 (10))) (.int .i64 (10)) ?_
   refine w_nil (xn_then (w_ret (xr_blk (xr_then (xr_then (xr_blk (xr_then ?_)))))))
   exact w_ret2 _ _ (.agg #[.int .u64 0, .int .u64 0, .int .u64 0, .int .u64 0]) (.int .i64 (10)) rfl ⟨k1, e2, (run_row Q1 31 0 4 _ rfl Tryd.underlying31 rfl sz24)⟩ rfl ⟨by rw [if_neg (fun hT : isT s => by obtain ⟨_, _, h3⟩ := hT; have := h3 k hlt hlt; have := of_decide_eq_true ha; omega)], M⟩
  | false =>
   cases hb : decide ((s[k].toNat : Int) > 57) with
   | true =>
    refine w_seq (w_seq (w_reg ?_))
    refine wl_mv (.tmp 4) (.int .i64 ((k : Int))) (fun _ => rfl) e4 rfl ?_
    refine wl_mv (.tmp 0) (.string s) (fun _ => rfl) e0 rfl ?_
    refine wl_val (.int .i64 ((s.size : Int))) (len_run _ _ s rfl _ _ _ _ _ _) rfl ?_
    refine wl_b .lss 3 (.tmp 24) (.tmp 26) (.int .i64 ((k : Int))) (.int .i64 ((s.size : Int))) (.bool true) (lt3_run hl _ _ _) ?_
    refine w_nil (xn_then (w_condT rfl (w_skip (xn_then (w_seq (w_block (w_seq (w_reg ?_))))))))
    refine wl_mv (.tmp 0) (.string s) (fun _ => rfl) e0 rfl ?_
    refine wl_mv (.tmp 4) (.int .i64 ((k : Int))) (fun _ => rfl) e4 rfl ?_
    refine wl_bin (fun x y => Instr.index 9 x y) (.tmp 30) (.tmp 31) (.string s) (.int .i64 ((k : Int))) (.int .u8 (s[k].toNat : Int)) (fun _ => rfl) rfl rfl (idx_s s k hlt _) rfl ?_
    refine wl_b .lss 5 (.tmp 32) (.const (.int .u8 (48))) (.int .u8 (s[k].toNat : Int)) (.int .u8 (48)) (.bool false) (ls5 ha _ _ _) ?_
    refine wl_m (.tmp 33) (.bool false) ?_
    refine wl_mv (.tmp 0) (.string s) (fun _ => rfl) e0 rfl ?_
    refine wl_mv (.tmp 4) (.int .i64 ((k : Int))) (fun _ => rfl) e4 rfl ?_
    refine wl_bin (fun x y => Instr.index 9 x y) (.tmp 35) (.tmp 36) (.string s) (.int .i64 ((k : Int))) (.int .u8 (s[k].toNat : Int)) (fun _ => rfl) rfl rfl (idx_s s k hlt _) rfl ?_
    refine wl_b .gtr 5 (.tmp 37) (.const (.int .u8 (57))) (.int .u8 (s[k].toNat : Int)) (.int .u8 (57)) (.bool true) (gt5_run hb _ _ _) ?_
    refine wl_pick (.tmp 34) (.const (.bool true)) (.tmp 38) false (.bool true) (fun _ => rfl) rfl rfl rfl ?_
    refine w_nil (xn_then (w_condT rfl (w_seq (w_reg ?_))))
    refine wl_build 31 [] [] (.agg #[.int .u64 0, .int .u64 0, .int .u64 0, .int .u64 0]) rfl rfl (by kernel_rfl) rfl ?_
    refine wl_st 31 (.tmp 2) (.tmp 40) k1 0 #[.int .u64 0, .int .u64 0, .int .u64 0, .int .u64 0] _ [.int .u64 0, .int .u64 0, .int .u64 0, .int .u64 0] Q1 rfl rfl e2 rfl rfl sz24 rfl rfl rfl ?_
    intro w21 hS Qn
    replace Q1 := Qn
    clear Qn
    replace M := hS.mo _ N_k1 M
    clear hS
    refine wl_m (.const (.int .i64 (10))) (.int .i64 (10)) ?_
    refine w_nil (xn_then (w_ret (xr_blk (xr_then (xr_then (xr_blk (xr_then ?_)))))))
    exact w_ret2 _ _ (.agg #[.int .u64 0, .int .u64 0, .int .u64 0, .int .u64 0]) (.int .i64 (10)) rfl ⟨k1, e2, (run_row Q1 31 0 4 _ rfl Tryd.underlying31 rfl sz24)⟩ rfl ⟨by rw [if_neg (fun hT : isT s => by obtain ⟨_, _, h3⟩ := hT; have := h3 k hlt hlt; have := of_decide_eq_true hb; omega)], M⟩
   | false =>
    refine w_seq (w_seq (w_reg ?_))
    refine wl_mv (.tmp 4) (.int .i64 ((k : Int))) (fun _ => rfl) e4 rfl ?_
    refine wl_mv (.tmp 0) (.string s) (fun _ => rfl) e0 rfl ?_
    refine wl_val (.int .i64 ((s.size : Int))) (len_run _ _ s rfl _ _ _ _ _ _) rfl ?_
    refine wl_b .lss 3 (.tmp 24) (.tmp 26) (.int .i64 ((k : Int))) (.int .i64 ((s.size : Int))) (.bool true) (lt3_run hl _ _ _) ?_
    refine w_nil (xn_then (w_condT rfl (w_skip (xn_then (w_seq (w_block (w_seq (w_reg ?_))))))))
    refine wl_mv (.tmp 0) (.string s) (fun _ => rfl) e0 rfl ?_
    refine wl_mv (.tmp 4) (.int .i64 ((k : Int))) (fun _ => rfl) e4 rfl ?_
    refine wl_bin (fun x y => Instr.index 9 x y) (.tmp 30) (.tmp 31) (.string s) (.int .i64 ((k : Int))) (.int .u8 (s[k].toNat : Int)) (fun _ => rfl) rfl rfl (idx_s s k hlt _) rfl ?_
    refine wl_b .lss 5 (.tmp 32) (.const (.int .u8 (48))) (.int .u8 (s[k].toNat : Int)) (.int .u8 (48)) (.bool false) (ls5 ha _ _ _) ?_
    refine wl_m (.tmp 33) (.bool false) ?_
    refine wl_mv (.tmp 0) (.string s) (fun _ => rfl) e0 rfl ?_
    refine wl_mv (.tmp 4) (.int .i64 ((k : Int))) (fun _ => rfl) e4 rfl ?_
    refine wl_bin (fun x y => Instr.index 9 x y) (.tmp 35) (.tmp 36) (.string s) (.int .i64 ((k : Int))) (.int .u8 (s[k].toNat : Int)) (fun _ => rfl) rfl rfl (idx_s s k hlt _) rfl ?_
    refine wl_b .gtr 5 (.tmp 37) (.const (.int .u8 (57))) (.int .u8 (s[k].toNat : Int)) (.int .u8 (57)) (.bool false) (gt5_run hb _ _ _) ?_
    refine wl_pick (.tmp 34) (.const (.bool true)) (.tmp 38) false (.bool false) (fun _ => rfl) rfl rfl rfl ?_
    refine w_nil (xn_then (w_condF rfl (w_skip (xn_blk (xn_then (w_reg ?_))))))
    refine wl_mv (.tmp 4) (.int .i64 ((k : Int))) (fun _ => rfl) e4 rfl ?_
    refine wl_b .add 3 (.tmp 28) (.const (.int .i64 (1))) (.int .i64 ((k : Int))) (.int .i64 (1)) (.int .i64 (((k + 1 : Nat) : Int))) (add1_run (by unfold maxLen at hs; omega) _ _ _) ?_
    refine wl_m (.tmp 29) (.int .i64 (((k + 1 : Nat) : Int))) ?_
    refine w_nil ?_
    exact xn_loop (s.size - (k + 1)) (by omega) ⟨k + 1, by omega, e0, rfl, e2, Q1, dgs_succ hlt hd (by have := of_decide_eq_false ha; omega) (by have := of_decide_eq_false hb; omega), M, i7, i8, i9⟩
 ·have hl : decide ((k : Int) < (s.size : Int)) = false := decide_eq_false (by omega)
  cases h78 : decide ((s.size : Int) > 78) with
  | true =>
   refine w_seq (w_seq (w_reg ?_))
   refine wl_mv (.tmp 4) (.int .i64 ((k : Int))) (fun _ => rfl) e4 rfl ?_
   refine wl_mv (.tmp 0) (.string s) (fun _ => rfl) e0 rfl ?_
   refine wl_val (.int .i64 ((s.size : Int))) (len_run _ _ s rfl _ _ _ _ _ _) rfl ?_
   refine wl_b .lss 3 (.tmp 24) (.tmp 26) (.int .i64 ((k : Int))) (.int .i64 ((s.size : Int))) (.bool false) (lt3_run hl _ _ _) ?_
   refine w_nil (xn_then (w_condF rfl (w_exit (xx_then (xx_then (xx_blk (xn_then (w_seq (w_seq (w_reg ?_))))))))))
   refine wl_mv (.tmp 0) (.string s) (fun _ => rfl) e0 rfl ?_
   refine wl_val (.int .i64 ((s.size : Int))) (len_run _ _ s rfl _ _ _ _ _ _) rfl ?_
   refine wl_b .gtr 3 (.tmp 42) (.const (.int .i64 (78))) (.int .i64 ((s.size : Int))) (.int .i64 (78)) (.bool true) (gt3_run h78 _ _ _) ?_
   refine w_nil (xn_then (w_condT rfl (w_seq (w_reg ?_))))
   refine wl_build 31 [] [] (.agg #[.int .u64 0, .int .u64 0, .int .u64 0, .int .u64 0]) rfl rfl (by kernel_rfl) rfl ?_
   refine wl_st 31 (.tmp 2) (.tmp 44) k1 0 #[.int .u64 0, .int .u64 0, .int .u64 0, .int .u64 0] _ [.int .u64 0, .int .u64 0, .int .u64 0, .int .u64 0] Q1 rfl rfl e2 rfl rfl sz24 rfl rfl rfl ?_
   intro w21 hS Qn
   replace Q1 := Qn
   clear Qn
   replace M := hS.mo _ N_k1 M
   clear hS
   refine wl_m (.const (.int .i64 (7))) (.int .i64 (7)) ?_
   refine w_nil (xn_then (w_ret (xr_then ?_)))
   exact w_ret2 _ _ (.agg #[.int .u64 0, .int .u64 0, .int .u64 0, .int .u64 0]) (.int .i64 (7)) rfl ⟨k1, e2, (run_row Q1 31 0 4 _ rfl Tryd.underlying31 rfl sz24)⟩ rfl ⟨by rw [if_pos (isT_mk hp hlead (by omega) hd), resP_long hp (dgs_end hk hlt hd) hz0 (by have := of_decide_eq_true h78; omega)], M⟩
  | false =>
   refine w_seq (w_seq (w_reg ?_))
   refine wl_mv (.tmp 4) (.int .i64 ((k : Int))) (fun _ => rfl) e4 rfl ?_
   refine wl_mv (.tmp 0) (.string s) (fun _ => rfl) e0 rfl ?_
   refine wl_val (.int .i64 ((s.size : Int))) (len_run _ _ s rfl _ _ _ _ _ _) rfl ?_
   refine wl_b .lss 3 (.tmp 24) (.tmp 26) (.int .i64 ((k : Int))) (.int .i64 ((s.size : Int))) (.bool false) (lt3_run hl _ _ _) ?_
   refine w_nil (xn_then (w_condF rfl (w_exit (xx_then (xx_then (xx_blk (xn_then (w_seq (w_seq (w_reg ?_))))))))))
   refine wl_mv (.tmp 0) (.string s) (fun _ => rfl) e0 rfl ?_
   refine wl_val (.int .i64 ((s.size : Int))) (len_run _ _ s rfl _ _ _ _ _ _) rfl ?_
   refine wl_b .gtr 3 (.tmp 42) (.const (.int .i64 (78))) (.int .i64 ((s.size : Int))) (.int .i64 (78)) (.bool false) (gt3_run h78 _ _ _) ?_
   refine w_nil (xn_then (w_condF rfl (w_skip (xn_then (w_seq (w_reg ?_))))))
   refine wl_alloc 31 #[.int .u64 0, .int .u64 0, .int .u64 0, .int .u64 0] rfl (fun _ => by kernel_rfl) rfl ?_
   intro k21 w21 hk hz hq Q21
   have ne_k1_k21 : k1 ≠ k21 := by have := Q1.lt; omega
   have N_k21 : w.heap.size ≤ k21 := by have := M.size; omega
   replace Q1 := Q1.mo hq
   replace M := M.trans hq
   clear hk hz hq
   refine w_nil (xn_then (w_seq (w_seq (w_reg ?_))))
   refine wl_m (.const (.int .i64 (0))) (.int .i64 (0)) ?_
   refine w_nil (xn_then (w_block ?_))
   rw [if_pos (isT_mk hp hlead (by omega) hd)]
   have hT := dgs_end hk hlt hd
   refine w_loop (fun m l w1 => ∃ k : Nat, k + m = s.size ∧ look l 0 = .string s ∧ look l 6 = .int .i64 (k : Int) ∧ look l 2 = pt k1 0 ∧ look l 5 = pt k21 0 ∧ At w1 k1 [.int .u64 0, .int .u64 0, .int .u64 0, .int .u64 0] ∧ At w1 k21 (nvli (pvk s k)) ∧ pvk s k < MM ∧ Mo w w1 ∧ (∀ k, look l 7 = pt k 0 → k < w1.heap.size) ∧ (∀ k, look l 8 = pt k 0 → k < w1.heap.size) ∧ (∀ k, look l 7 = pt k 0 → look l 8 ≠ pt k 0) ∧ (∀ k, look l 9 = pt k 0 → k < w1.heap.size)) s.size ⟨0, by omega, e0, rfl, e2, rfl, Q1, Q21, by rw [pvk_z]; decide, M, (fun k h => (npt i7 h).elim), (fun k h => (npt i8 h).elim), (fun k h => (npt i7 h).elim), (fun k h => (npt i9 h).elim)⟩ ?_
   clear M Q1 Q21 hd hl h78 hk e0 e2 e4 i7 i8 i9 hlt
   rintro m2 l2 wl2 ⟨k, hk, e0, e6, e2, e5, Q1, Q21, hv, M, d7, d8, d78, d9⟩
   have hv0 := pvk_nn hT k (by omega)
   by_cases hlt : k < s.size
   ·have hl : decide ((k : Int) < (s.size : Int)) = true := decide_eq_true (by omega)
    have hc := hT k hlt hlt
    have hsz := M.size
    by_cases hhi : pvk s k * 10 < MM
    ·have hz := hi0z (show 0 ≤ pvk s k * 10 by omega) hhi
     by_cases hsm : pvk s k * 10 + ((s[k].toNat : Int) - 48) < MM
     ·obtain ⟨Z, hZ⟩ : ∃ Z, Z = pvk s k * 10 + ((s[k].toNat : Int) - 48) := ⟨_, rfl⟩
      have hsum := fun w => rsum_ok (pvk s k * 10) ((s[k].toNat : Int) - 48) Z w (by omega) (by omega) hZ hhi hsm
      refine w_seq (w_seq (w_reg ?_))
      refine wl_mv (.tmp 6) (.int .i64 ((k : Int))) (fun _ => rfl) e6 rfl ?_
      refine wl_mv (.tmp 0) (.string s) (fun _ => rfl) e0 rfl ?_
      refine wl_val (.int .i64 ((s.size : Int))) (len_run _ _ s rfl _ _ _ _ _ _) rfl ?_
      refine wl_b .lss 3 (.tmp 45) (.tmp 47) (.int .i64 ((k : Int))) (.int .i64 ((s.size : Int))) (.bool true) (lt3_run hl _ _ _) ?_
      refine w_nil (xn_then (w_condT rfl (w_skip (xn_then (w_seq (w_block (w_seq ?_)))))))
      refine w_any 8 [.inl (nv (pvk s k)), .inl (nv (10)), .inl (.tuple #[nv (pvk s k * 10 / MM), nv (pvk s k * 10)]), .inl (.tuple #[nv (pvk s k * 10 / MM), nv (pvk s k * 10)]), .inl (nv (pvk s k * 10 / MM)), .inl (nv (pvk s k * 10)), .inr [.int .u64 0, .int .u64 0, .int .u64 0, .int .u64 0], .inr [.int .u64 0, .int .u64 0, .int .u64 0, .int .u64 0]] [5] (by kernel_rfl) (by kernel_rfl) (by kernel_rfl) (by kernel_rfl) rfl (by kernel_rfl) (by kernel_rfl) (late_cons ⟨_, _, rfl, rfl, fun _ _ _ _ h => h, fun f hd => ⟨rfl, la_un (fun v => Instr.extract v 1) (.tmp 51) (.tuple #[nv (pvk s k * 10 / MM), nv (pvk s k * 10)]) (nv (pvk s k * 10)) (fun _ => rfl) (hd 3 rfl _ rfl) (fun w => by kernel_rfl)⟩⟩ late_nil) ?_ ?_ ?_
      ·exact Ds.two 6 7 (fun q hq => by rcases q with _ | _ | _ | _ | _ | _ | _ | _ | q <;> first | (left; rfl) | (right; rfl) | cases hq) d7 d8 d78
      ·refine ea_cons ?_ (ea_cons ?_ (ea_cons ?_ (ea_cons ?_ (ea_cons ?_ (ea_cons ?_ (ea_cons ?_ (ea_cons ?_ (ea_nil))))))))
       ·exact og_eq _ rfl (fun f wf hq hd K hK => have Q21 := Q21.mo hq; go_run rfl (wo_load 31 (.tmp 5) (pt k21 0) (nv (pvk s k)) rfl e5 (run_row Q21 31 0 4 (nvli (pvk s k)) rfl Tryd.underlying31 rfl sz24) (hK _ (Mo.refl _))))
       ·exact og_eq _ rfl (fun f wf hq hd K hK => go_run rfl (wo_call 64 [(.const (.int .u64 (10)))] _ [.int .u64 (10)] (nv (10)) rfl rfl (fun _ _ => by kernel_rfl) (from69_n _) hK))
       ·exact og_eq _ rfl (fun f wf hq hd K hK => go_run rfl (wo_call 63 [(.tmp 52), (.tmp 53)] _ [nv (pvk s k), nv (10)] (.tuple #[nv (pvk s k * 10 / MM), nv (pvk s k * 10)]) rfl (li2 (hd 0 rfl) (hd 1 rfl)) (fun _ _ => by kernel_rfl) (rmul_n (pvk s k) 10 _ hv0 hv (by decide) (by decide)) hK))
       ·exact og_eq _ rfl (fun f wf hq hd K hK => go_run rfl (wo_mv (.tmp 54) (.tuple #[nv (pvk s k * 10 / MM), nv (pvk s k * 10)]) (fun _ => rfl) (hd 2 rfl) (hK _ (Mo.refl _))))
       ·exact og_eq _ rfl (fun f wf hq hd K hK => go_run rfl (wo_un (fun v => Instr.extract v 0) (.tmp 51) (.tuple #[nv (pvk s k * 10 / MM), nv (pvk s k * 10)]) (nv (pvk s k * 10 / MM)) (fun _ => rfl) (hd 3 rfl) (by kernel_rfl) (hK _ (Mo.refl _))))
       ·exact og_eq _ rfl (fun f wf hq hd K hK => go_run rfl (wo_un (fun v => Instr.extract v 1) (.tmp 51) (.tuple #[nv (pvk s k * 10 / MM), nv (pvk s k * 10)]) (nv (pvk s k * 10)) (fun _ => rfl) (hd 3 rfl) (by kernel_rfl) (hK _ (Mo.refl _))))
       ·exact og_new [.int .u64 0, .int .u64 0, .int .u64 0, .int .u64 0] rfl (fun f wf hq hd K hK => go_run rfl (wo_alloc 31 #[.int .u64 0, .int .u64 0, .int .u64 0, .int .u64 0] rfl (fun _ => by kernel_rfl) hK))
       ·exact og_new [.int .u64 0, .int .u64 0, .int .u64 0, .int .u64 0] rfl (fun f wf hq hd K hK => go_run rfl (wo_alloc 31 #[.int .u64 0, .int .u64 0, .int .u64 0, .int .u64 0] rfl (fun _ => by kernel_rfl) hK))
      intro kf51 w51 hq hR hne
      obtain ⟨N_k51, Q51⟩ := hR 6 _ rfl rfl
      obtain ⟨N_k52, Q52⟩ := hR 7 _ rfl rfl
      have ne_k1_k51 : k1 ≠ (kf51 6) := by have := Q1.lt; omega
      have ne_k21_k51 : k21 ≠ (kf51 6) := by have := Q21.lt; omega
      have ne_k51_k52 := hne 6 7 rfl rfl rfl rfl (by decide)
      replace N_k51 := Nat.le_trans M.size N_k51
      have ne_k1_k52 : k1 ≠ (kf51 7) := by have := Q1.lt; omega
      have ne_k21_k52 : k21 ≠ (kf51 7) := by have := Q21.lt; omega
      replace N_k52 := Nat.le_trans M.size N_k52
      replace d9 := fun k h => Nat.lt_of_lt_of_le (d9 k h) hq.size
      replace Q1 := Q1.mo hq
      replace Q21 := Q21.mo hq
      replace M := M.trans hq
      clear hq hR hne
      refine wl_st 31 (.tmp 7) (.tmp 55) (kf51 6) 0 (nvar (pvk s k * 10 / MM)) _ (nvli (pvk s k * 10 / MM)) Q51 rfl rfl rfl rfl rfl sz24 rfl rfl rfl ?_
      intro w52 hS Qn
      replace Q51 := Qn
      clear Qn
      replace Q1 := hS.other _ _ ne_k1_k51 Q1
      replace Q21 := hS.other _ _ ne_k21_k51 Q21
      replace Q52 := hS.other _ _ ne_k51_k52.symm Q52
      replace d9 := fun k h => Nat.lt_of_lt_of_le (d9 k h) (Nat.le_of_eq hS.size.symm)
      replace M := hS.mo _ N_k51 M
      clear hS
      refine wl_st 31 (.tmp 8) (.tmp 56) (kf51 7) 0 (nvar (pvk s k * 10)) _ (nvli (pvk s k * 10)) Q52 rfl rfl rfl rfl rfl sz24 rfl rfl rfl ?_
      intro w53 hS Qn
      replace Q52 := Qn
      clear Qn
      replace Q1 := hS.other _ _ ne_k1_k52 Q1
      replace Q21 := hS.other _ _ ne_k21_k52 Q21
      replace Q51 := hS.other _ _ ne_k51_k52 Q51
      replace d9 := fun k h => Nat.lt_of_lt_of_le (d9 k h) (Nat.le_of_eq hS.size.symm)
      replace M := hS.mo _ N_k52 M
      clear hS
      refine w_nil (xn_then (w_seq ?_))
      refine w_any 12 [.inl (nv (pvk s k * 10)), .inl (.string s), .inl (.int .i64 ((k : Int))), .inl (.int .u8 (s[k].toNat : Int)), .inl (.int .u8 ((s[k].toNat : Int) - 48)), .inl (.int .u64 ((s[k].toNat : Int) - 48)), .inl (nv (((s[k].toNat : Int) - 48))), .inl (.tuple #[nv (Z), .bool false]), .inl (.tuple #[nv (Z), .bool false]), .inl (nv (Z)), .inl (.bool false), .inr [.int .u64 0, .int .u64 0, .int .u64 0, .int .u64 0]] [10] (by kernel_rfl) (by kernel_rfl) (by kernel_rfl) (by kernel_rfl) rfl (by kernel_rfl) (by kernel_rfl) (late_cons ⟨_, _, rfl, rfl, fun _ _ _ _ h => h, fun f hd => ⟨rfl, la_un (fun v => Instr.extract v 1) (.tmp 57) (.tuple #[nv (Z), .bool false]) (.bool false) (fun _ => rfl) (hd 8 rfl _ rfl) (fun w => by kernel_rfl)⟩⟩ late_nil) ?_ ?_ ?_
      ·exact Ds.one 11 (fun q hq => by rcases q with _ | _ | _ | _ | _ | _ | _ | _ | _ | _ | _ | _ | q <;> first | rfl | cases hq) d9
      ·refine ea_cons ?_ (ea_cons ?_ (ea_cons ?_ (ea_cons ?_ (ea_cons ?_ (ea_cons ?_ (ea_cons ?_ (ea_cons ?_ (ea_cons ?_ (ea_cons ?_ (ea_cons ?_ (ea_cons ?_ (ea_nil))))))))))))
       ·exact og_eq _ rfl (fun f wf hq hd K hK => have Q52 := Q52.mo hq; go_run rfl (wo_load 31 (.tmp 8) (pt (kf51 7) 0) (nv (pvk s k * 10)) rfl rfl (run_row Q52 31 0 4 (nvli (pvk s k * 10)) rfl Tryd.underlying31 rfl sz24) (hK _ (Mo.refl _))))
       ·exact og_eq _ rfl (fun f wf hq hd K hK => go_run rfl (wo_mv (.tmp 0) (.string s) (fun _ => rfl) e0 (hK _ (Mo.refl _))))
       ·exact og_eq _ rfl (fun f wf hq hd K hK => go_run rfl (wo_mv (.tmp 6) (.int .i64 ((k : Int))) (fun _ => rfl) e6 (hK _ (Mo.refl _))))
       ·exact og_eq _ rfl (fun f wf hq hd K hK => go_run rfl (wo_bin (fun x y => Instr.index 9 x y) (.tmp 59) (.tmp 60) (.string s) (.int .i64 ((k : Int))) (.int .u8 (s[k].toNat : Int)) (fun _ => rfl) (hd 1 rfl) (hd 2 rfl) (idx_s s k hlt _) (hK _ (Mo.refl _))))
       ·exact og_eq _ rfl (fun f wf hq hd K hK => go_run rfl (wo_bin (fun x y => do eqGuard .sub 5 (.tmp 61) (.const (.int .u8 (48))) x y; binOp .sub 5 x y) (.tmp 61) (.const (.int .u8 (48))) (.int .u8 (s[k].toNat : Int)) (.int .u8 (48)) (.int .u8 ((s[k].toNat : Int) - 48)) (fun _ => rfl) (hd 3 rfl) rfl (subu8_run hc.1 hc.2 _ _ _) (hK _ (Mo.refl _))))
       ·exact og_eq _ rfl (fun f wf hq hd K hK => go_run rfl (wo_un (fun v => convert 5 29 v) (.tmp 62) (.int .u8 ((s[k].toNat : Int) - 48)) (.int .u64 ((s[k].toNat : Int) - 48)) (fun _ => rfl) (hd 4 rfl) (cv8_run (by omega) (by omega) _) (hK _ (Mo.refl _))))
       ·exact og_eq _ rfl (fun f wf hq hd K hK => go_run rfl (wo_call 64 [(.tmp 63)] _ [.int .u64 ((s[k].toNat : Int) - 48)] (nv (((s[k].toNat : Int) - 48))) rfl (li1 (hd 5 rfl)) (fun _ _ => by kernel_rfl) (from34_any ((s[k].toNat : Int) - 48) _ ⟨by omega, by omega⟩) hK))
       ·exact og_eq _ rfl (fun f wf hq hd K hK => go_run rfl (wo_call 65 [(.tmp 58), (.tmp 64)] _ [nv (pvk s k * 10), nv (((s[k].toNat : Int) - 48))] (.tuple #[nv (Z), .bool false]) rfl (li2 (hd 0 rfl) (hd 6 rfl)) (fun _ _ => by kernel_rfl) (hsum _) hK))
       ·exact og_eq _ rfl (fun f wf hq hd K hK => go_run rfl (wo_mv (.tmp 65) (.tuple #[nv (Z), .bool false]) (fun _ => rfl) (hd 7 rfl) (hK _ (Mo.refl _))))
       ·exact og_eq _ rfl (fun f wf hq hd K hK => go_run rfl (wo_un (fun v => Instr.extract v 0) (.tmp 57) (.tuple #[nv (Z), .bool false]) (nv (Z)) (fun _ => rfl) (hd 8 rfl) (by kernel_rfl) (hK _ (Mo.refl _))))
       ·exact og_eq _ rfl (fun f wf hq hd K hK => go_run rfl (wo_un (fun v => Instr.extract v 1) (.tmp 57) (.tuple #[nv (Z), .bool false]) (.bool false) (fun _ => rfl) (hd 8 rfl) (by kernel_rfl) (hK _ (Mo.refl _))))
       ·exact og_new [.int .u64 0, .int .u64 0, .int .u64 0, .int .u64 0] rfl (fun f wf hq hd K hK => go_run rfl (wo_alloc 31 #[.int .u64 0, .int .u64 0, .int .u64 0, .int .u64 0] rfl (fun _ => by kernel_rfl) hK))
      intro kf54 w54 hq hR hne
      obtain ⟨N_k53, Q53⟩ := hR 11 _ rfl rfl
      have ne_k1_k53 : k1 ≠ (kf54 11) := by have := Q1.lt; omega
      have ne_k21_k53 : k21 ≠ (kf54 11) := by have := Q21.lt; omega
      have ne_k51_k53 : (kf51 6) ≠ (kf54 11) := by have := Q51.lt; omega
      have ne_k52_k53 : (kf51 7) ≠ (kf54 11) := by have := Q52.lt; omega
      replace N_k53 := Nat.le_trans M.size N_k53
      replace d9 := fun k h => Nat.lt_of_lt_of_le (d9 k h) hq.size
      replace Q1 := Q1.mo hq
      replace Q21 := Q21.mo hq
      replace Q51 := Q51.mo hq
      replace Q52 := Q52.mo hq
      replace M := M.trans hq
      clear hq hR hne
      refine wl_st 31 (.tmp 9) (.tmp 66) (kf54 11) 0 (nvar (Z)) _ (nvli (Z)) Q53 rfl rfl rfl rfl rfl sz24 rfl rfl rfl ?_
      intro w55 hS Qn
      replace Q53 := Qn
      clear Qn
      replace Q1 := hS.other _ _ ne_k1_k53 Q1
      replace Q21 := hS.other _ _ ne_k21_k53 Q21
      replace Q51 := hS.other _ _ ne_k51_k53 Q51
      replace Q52 := hS.other _ _ ne_k52_k53 Q52
      replace d9 := fun k h => Nat.lt_of_lt_of_le (d9 k h) (Nat.le_of_eq hS.size.symm)
      replace M := hS.mo _ N_k53 M
      clear hS
      refine wl_m (.tmp 67) (.bool false) ?_
      refine w_nil (xn_then (w_seq (w_seq (w_reg ?_))))
      refine wl_l 31 (.tmp 7) (pt (kf51 6) 0) (nv (pvk s k * 10 / MM)) (run_row Q51 31 0 4 (nvli (pvk s k * 10 / MM)) rfl Tryd.underlying31 rfl sz24) ?_
      refine wl_build 31 [] [] (.agg #[.int .u64 0, .int .u64 0, .int .u64 0, .int .u64 0]) rfl rfl (by kernel_rfl) rfl ?_
      refine wl_b .neq 31 (.tmp 68) (.tmp 69) (nv (pvk s k * 10 / MM)) (.agg #[.int .u64 0, .int .u64 0, .int .u64 0, .int .u64 0]) (.bool false) (nen_run (r := true) hz _ _ _) ?_
      refine wl_m (.tmp 70) (.bool false) ?_
      refine wl_m (.tmp 10) (.bool false) ?_
      refine wl_pick (.tmp 71) (.const (.bool true)) (.tmp 72) false (.bool false) (fun _ => rfl) rfl rfl rfl ?_
      refine w_nil (xn_then (w_condF rfl (w_skip (xn_then (w_reg ?_)))))
      refine wl_l 31 (.tmp 9) (pt (kf54 11) 0) (nv (Z)) (run_row Q53 31 0 4 (nvli (Z)) rfl Tryd.underlying31 rfl sz24) ?_
      refine wl_st 31 (.tmp 5) (.tmp 75) k21 0 (nvar (Z)) (nvli (pvk s k)) (nvli (Z)) Q21 rfl rfl e5 rfl rfl sz24 rfl rfl rfl ?_
      intro w56 hS Qn
      replace Q21 := Qn
      clear Qn
      replace Q1 := hS.other _ _ ne_k1_k21 Q1
      replace Q51 := hS.other _ _ ne_k21_k51.symm Q51
      replace Q52 := hS.other _ _ ne_k21_k52.symm Q52
      replace Q53 := hS.other _ _ ne_k21_k53.symm Q53
      replace d9 := fun k h => Nat.lt_of_lt_of_le (d9 k h) (Nat.le_of_eq hS.size.symm)
      replace M := hS.mo _ N_k21 M
      clear hS
      refine w_nil (xn_blk (xn_then (w_reg ?_)))
      refine wl_mv (.tmp 6) (.int .i64 ((k : Int))) (fun _ => rfl) e6 rfl ?_
      refine wl_b .add 3 (.tmp 49) (.const (.int .i64 (1))) (.int .i64 ((k : Int))) (.int .i64 (1)) (.int .i64 (((k + 1 : Nat) : Int))) (add1_run (by unfold maxLen at hs; omega) _ _ _) ?_
      refine wl_m (.tmp 50) (.int .i64 (((k + 1 : Nat) : Int))) ?_
      refine w_nil ?_
      exact xn_loop (s.size - (k + 1)) (by omega) ⟨k + 1, by omega, e0, rfl, e2, e5, Q1, by rw [pvk_succ s k hlt, ← hZ]; exact Q21, by rw [pvk_succ s k hlt]; exact hsm, M, (fun k h => by have e : pt (kf51 6) 0 = pt k 0 := h; rw [← pt_inj e]; exact Q51.lt), (fun k h => by have e : pt (kf51 7) 0 = pt k 0 := h; rw [← pt_inj e]; exact Q52.lt), (fun k h h2 => by have e : pt (kf51 6) 0 = pt k 0 := h; have e2 : pt (kf51 7) 0 = pt k 0 := h2; exact ne_k51_k52 (pt_inj (e.trans e2.symm))), (fun k h => by have e : pt (kf54 11) 0 = pt k 0 := h; rw [← pt_inj e]; exact Q53.lt)⟩
     ·obtain ⟨Z, hsum⟩ := rsum_ov (pvk s k * 10) ((s[k].toNat : Int) - 48) (by omega) (by omega) (by omega) hhi hsm
      have hbig : ¬ pvk s k * 10 + ((s[k].toNat : Int) - 48) < MM := hsm
      refine w_seq (w_seq (w_reg ?_))
      refine wl_mv (.tmp 6) (.int .i64 ((k : Int))) (fun _ => rfl) e6 rfl ?_
      refine wl_mv (.tmp 0) (.string s) (fun _ => rfl) e0 rfl ?_
      refine wl_val (.int .i64 ((s.size : Int))) (len_run _ _ s rfl _ _ _ _ _ _) rfl ?_
      refine wl_b .lss 3 (.tmp 45) (.tmp 47) (.int .i64 ((k : Int))) (.int .i64 ((s.size : Int))) (.bool true) (lt3_run hl _ _ _) ?_
      refine w_nil (xn_then (w_condT rfl (w_skip (xn_then (w_seq (w_block (w_seq ?_)))))))
      refine w_any 8 [.inl (nv (pvk s k)), .inl (nv (10)), .inl (.tuple #[nv (pvk s k * 10 / MM), nv (pvk s k * 10)]), .inl (.tuple #[nv (pvk s k * 10 / MM), nv (pvk s k * 10)]), .inl (nv (pvk s k * 10 / MM)), .inl (nv (pvk s k * 10)), .inr [.int .u64 0, .int .u64 0, .int .u64 0, .int .u64 0], .inr [.int .u64 0, .int .u64 0, .int .u64 0, .int .u64 0]] [5] (by kernel_rfl) (by kernel_rfl) (by kernel_rfl) (by kernel_rfl) rfl (by kernel_rfl) (by kernel_rfl) (late_cons ⟨_, _, rfl, rfl, fun _ _ _ _ h => h, fun f hd => ⟨rfl, la_un (fun v => Instr.extract v 1) (.tmp 51) (.tuple #[nv (pvk s k * 10 / MM), nv (pvk s k * 10)]) (nv (pvk s k * 10)) (fun _ => rfl) (hd 3 rfl _ rfl) (fun w => by kernel_rfl)⟩⟩ late_nil) ?_ ?_ ?_
      ·exact Ds.two 6 7 (fun q hq => by rcases q with _ | _ | _ | _ | _ | _ | _ | _ | q <;> first | (left; rfl) | (right; rfl) | cases hq) d7 d8 d78
      ·refine ea_cons ?_ (ea_cons ?_ (ea_cons ?_ (ea_cons ?_ (ea_cons ?_ (ea_cons ?_ (ea_cons ?_ (ea_cons ?_ (ea_nil))))))))
       ·exact og_eq _ rfl (fun f wf hq hd K hK => have Q21 := Q21.mo hq; go_run rfl (wo_load 31 (.tmp 5) (pt k21 0) (nv (pvk s k)) rfl e5 (run_row Q21 31 0 4 (nvli (pvk s k)) rfl Tryd.underlying31 rfl sz24) (hK _ (Mo.refl _))))
       ·exact og_eq _ rfl (fun f wf hq hd K hK => go_run rfl (wo_call 64 [(.const (.int .u64 (10)))] _ [.int .u64 (10)] (nv (10)) rfl rfl (fun _ _ => by kernel_rfl) (from69_n _) hK))
       ·exact og_eq _ rfl (fun f wf hq hd K hK => go_run rfl (wo_call 63 [(.tmp 52), (.tmp 53)] _ [nv (pvk s k), nv (10)] (.tuple #[nv (pvk s k * 10 / MM), nv (pvk s k * 10)]) rfl (li2 (hd 0 rfl) (hd 1 rfl)) (fun _ _ => by kernel_rfl) (rmul_n (pvk s k) 10 _ hv0 hv (by decide) (by decide)) hK))
       ·exact og_eq _ rfl (fun f wf hq hd K hK => go_run rfl (wo_mv (.tmp 54) (.tuple #[nv (pvk s k * 10 / MM), nv (pvk s k * 10)]) (fun _ => rfl) (hd 2 rfl) (hK _ (Mo.refl _))))
       ·exact og_eq _ rfl (fun f wf hq hd K hK => go_run rfl (wo_un (fun v => Instr.extract v 0) (.tmp 51) (.tuple #[nv (pvk s k * 10 / MM), nv (pvk s k * 10)]) (nv (pvk s k * 10 / MM)) (fun _ => rfl) (hd 3 rfl) (by kernel_rfl) (hK _ (Mo.refl _))))
       ·exact og_eq _ rfl (fun f wf hq hd K hK => go_run rfl (wo_un (fun v => Instr.extract v 1) (.tmp 51) (.tuple #[nv (pvk s k * 10 / MM), nv (pvk s k * 10)]) (nv (pvk s k * 10)) (fun _ => rfl) (hd 3 rfl) (by kernel_rfl) (hK _ (Mo.refl _))))
       ·exact og_new [.int .u64 0, .int .u64 0, .int .u64 0, .int .u64 0] rfl (fun f wf hq hd K hK => go_run rfl (wo_alloc 31 #[.int .u64 0, .int .u64 0, .int .u64 0, .int .u64 0] rfl (fun _ => by kernel_rfl) hK))
       ·exact og_new [.int .u64 0, .int .u64 0, .int .u64 0, .int .u64 0] rfl (fun f wf hq hd K hK => go_run rfl (wo_alloc 31 #[.int .u64 0, .int .u64 0, .int .u64 0, .int .u64 0] rfl (fun _ => by kernel_rfl) hK))
      intro kf51 w51 hq hR hne
      obtain ⟨N_k51, Q51⟩ := hR 6 _ rfl rfl
      obtain ⟨N_k52, Q52⟩ := hR 7 _ rfl rfl
      have ne_k1_k51 : k1 ≠ (kf51 6) := by have := Q1.lt; omega
      have ne_k21_k51 : k21 ≠ (kf51 6) := by have := Q21.lt; omega
      have ne_k51_k52 := hne 6 7 rfl rfl rfl rfl (by decide)
      replace N_k51 := Nat.le_trans M.size N_k51
      have ne_k1_k52 : k1 ≠ (kf51 7) := by have := Q1.lt; omega
      have ne_k21_k52 : k21 ≠ (kf51 7) := by have := Q21.lt; omega
      replace N_k52 := Nat.le_trans M.size N_k52
      replace d9 := fun k h => Nat.lt_of_lt_of_le (d9 k h) hq.size
      replace Q1 := Q1.mo hq
      replace Q21 := Q21.mo hq
      replace M := M.trans hq
      clear hq hR hne
      refine wl_st 31 (.tmp 7) (.tmp 55) (kf51 6) 0 (nvar (pvk s k * 10 / MM)) _ (nvli (pvk s k * 10 / MM)) Q51 rfl rfl rfl rfl rfl sz24 rfl rfl rfl ?_
      intro w52 hS Qn
      replace Q51 := Qn
      clear Qn
      replace Q1 := hS.other _ _ ne_k1_k51 Q1
      replace Q21 := hS.other _ _ ne_k21_k51 Q21
      replace Q52 := hS.other _ _ ne_k51_k52.symm Q52
      replace d9 := fun k h => Nat.lt_of_lt_of_le (d9 k h) (Nat.le_of_eq hS.size.symm)
      replace M := hS.mo _ N_k51 M
      clear hS
      refine wl_st 31 (.tmp 8) (.tmp 56) (kf51 7) 0 (nvar (pvk s k * 10)) _ (nvli (pvk s k * 10)) Q52 rfl rfl rfl rfl rfl sz24 rfl rfl rfl ?_
      intro w53 hS Qn
      replace Q52 := Qn
      clear Qn
      replace Q1 := hS.other _ _ ne_k1_k52 Q1
      replace Q21 := hS.other _ _ ne_k21_k52 Q21
      replace Q51 := hS.other _ _ ne_k51_k52 Q51
      replace d9 := fun k h => Nat.lt_of_lt_of_le (d9 k h) (Nat.le_of_eq hS.size.symm)
      replace M := hS.mo _ N_k52 M
      clear hS
      refine w_nil (xn_then (w_seq ?_))
      refine w_any 12 [.inl (nv (pvk s k * 10)), .inl (.string s), .inl (.int .i64 ((k : Int))), .inl (.int .u8 (s[k].toNat : Int)), .inl (.int .u8 ((s[k].toNat : Int) - 48)), .inl (.int .u64 ((s[k].toNat : Int) - 48)), .inl (nv (((s[k].toNat : Int) - 48))), .inl (.tuple #[nv (Z), .bool true]), .inl (.tuple #[nv (Z), .bool true]), .inl (nv (Z)), .inl (.bool true), .inr [.int .u64 0, .int .u64 0, .int .u64 0, .int .u64 0]] [10] (by kernel_rfl) (by kernel_rfl) (by kernel_rfl) (by kernel_rfl) rfl (by kernel_rfl) (by kernel_rfl) (late_cons ⟨_, _, rfl, rfl, fun _ _ _ _ h => h, fun f hd => ⟨rfl, la_un (fun v => Instr.extract v 1) (.tmp 57) (.tuple #[nv (Z), .bool true]) (.bool true) (fun _ => rfl) (hd 8 rfl _ rfl) (fun w => by kernel_rfl)⟩⟩ late_nil) ?_ ?_ ?_
      ·exact Ds.one 11 (fun q hq => by rcases q with _ | _ | _ | _ | _ | _ | _ | _ | _ | _ | _ | _ | q <;> first | rfl | cases hq) d9
      ·refine ea_cons ?_ (ea_cons ?_ (ea_cons ?_ (ea_cons ?_ (ea_cons ?_ (ea_cons ?_ (ea_cons ?_ (ea_cons ?_ (ea_cons ?_ (ea_cons ?_ (ea_cons ?_ (ea_cons ?_ (ea_nil))))))))))))
       ·exact og_eq _ rfl (fun f wf hq hd K hK => have Q52 := Q52.mo hq; go_run rfl (wo_load 31 (.tmp 8) (pt (kf51 7) 0) (nv (pvk s k * 10)) rfl rfl (run_row Q52 31 0 4 (nvli (pvk s k * 10)) rfl Tryd.underlying31 rfl sz24) (hK _ (Mo.refl _))))
       ·exact og_eq _ rfl (fun f wf hq hd K hK => go_run rfl (wo_mv (.tmp 0) (.string s) (fun _ => rfl) e0 (hK _ (Mo.refl _))))
       ·exact og_eq _ rfl (fun f wf hq hd K hK => go_run rfl (wo_mv (.tmp 6) (.int .i64 ((k : Int))) (fun _ => rfl) e6 (hK _ (Mo.refl _))))
       ·exact og_eq _ rfl (fun f wf hq hd K hK => go_run rfl (wo_bin (fun x y => Instr.index 9 x y) (.tmp 59) (.tmp 60) (.string s) (.int .i64 ((k : Int))) (.int .u8 (s[k].toNat : Int)) (fun _ => rfl) (hd 1 rfl) (hd 2 rfl) (idx_s s k hlt _) (hK _ (Mo.refl _))))
       ·exact og_eq _ rfl (fun f wf hq hd K hK => go_run rfl (wo_bin (fun x y => do eqGuard .sub 5 (.tmp 61) (.const (.int .u8 (48))) x y; binOp .sub 5 x y) (.tmp 61) (.const (.int .u8 (48))) (.int .u8 (s[k].toNat : Int)) (.int .u8 (48)) (.int .u8 ((s[k].toNat : Int) - 48)) (fun _ => rfl) (hd 3 rfl) rfl (subu8_run hc.1 hc.2 _ _ _) (hK _ (Mo.refl _))))
       ·exact og_eq _ rfl (fun f wf hq hd K hK => go_run rfl (wo_un (fun v => convert 5 29 v) (.tmp 62) (.int .u8 ((s[k].toNat : Int) - 48)) (.int .u64 ((s[k].toNat : Int) - 48)) (fun _ => rfl) (hd 4 rfl) (cv8_run (by omega) (by omega) _) (hK _ (Mo.refl _))))
       ·exact og_eq _ rfl (fun f wf hq hd K hK => go_run rfl (wo_call 64 [(.tmp 63)] _ [.int .u64 ((s[k].toNat : Int) - 48)] (nv (((s[k].toNat : Int) - 48))) rfl (li1 (hd 5 rfl)) (fun _ _ => by kernel_rfl) (from34_any ((s[k].toNat : Int) - 48) _ ⟨by omega, by omega⟩) hK))
       ·exact og_eq _ rfl (fun f wf hq hd K hK => go_run rfl (wo_call 65 [(.tmp 58), (.tmp 64)] _ [nv (pvk s k * 10), nv (((s[k].toNat : Int) - 48))] (.tuple #[nv (Z), .bool true]) rfl (li2 (hd 0 rfl) (hd 6 rfl)) (fun _ _ => by kernel_rfl) (hsum _) hK))
       ·exact og_eq _ rfl (fun f wf hq hd K hK => go_run rfl (wo_mv (.tmp 65) (.tuple #[nv (Z), .bool true]) (fun _ => rfl) (hd 7 rfl) (hK _ (Mo.refl _))))
       ·exact og_eq _ rfl (fun f wf hq hd K hK => go_run rfl (wo_un (fun v => Instr.extract v 0) (.tmp 57) (.tuple #[nv (Z), .bool true]) (nv (Z)) (fun _ => rfl) (hd 8 rfl) (by kernel_rfl) (hK _ (Mo.refl _))))
       ·exact og_eq _ rfl (fun f wf hq hd K hK => go_run rfl (wo_un (fun v => Instr.extract v 1) (.tmp 57) (.tuple #[nv (Z), .bool true]) (.bool true) (fun _ => rfl) (hd 8 rfl) (by kernel_rfl) (hK _ (Mo.refl _))))
       ·exact og_new [.int .u64 0, .int .u64 0, .int .u64 0, .int .u64 0] rfl (fun f wf hq hd K hK => go_run rfl (wo_alloc 31 #[.int .u64 0, .int .u64 0, .int .u64 0, .int .u64 0] rfl (fun _ => by kernel_rfl) hK))
      intro kf54 w54 hq hR hne
      obtain ⟨N_k53, Q53⟩ := hR 11 _ rfl rfl
      have ne_k1_k53 : k1 ≠ (kf54 11) := by have := Q1.lt; omega
      have ne_k21_k53 : k21 ≠ (kf54 11) := by have := Q21.lt; omega
      have ne_k51_k53 : (kf51 6) ≠ (kf54 11) := by have := Q51.lt; omega
      have ne_k52_k53 : (kf51 7) ≠ (kf54 11) := by have := Q52.lt; omega
      replace N_k53 := Nat.le_trans M.size N_k53
      replace d9 := fun k h => Nat.lt_of_lt_of_le (d9 k h) hq.size
      replace Q1 := Q1.mo hq
      replace Q21 := Q21.mo hq
      replace Q51 := Q51.mo hq
      replace Q52 := Q52.mo hq
      replace M := M.trans hq
      clear hq hR hne
      refine wl_st 31 (.tmp 9) (.tmp 66) (kf54 11) 0 (nvar (Z)) _ (nvli (Z)) Q53 rfl rfl rfl rfl rfl sz24 rfl rfl rfl ?_
      intro w55 hS Qn
      replace Q53 := Qn
      clear Qn
      replace Q1 := hS.other _ _ ne_k1_k53 Q1
      replace Q21 := hS.other _ _ ne_k21_k53 Q21
      replace Q51 := hS.other _ _ ne_k51_k53 Q51
      replace Q52 := hS.other _ _ ne_k52_k53 Q52
      replace d9 := fun k h => Nat.lt_of_lt_of_le (d9 k h) (Nat.le_of_eq hS.size.symm)
      replace M := hS.mo _ N_k53 M
      clear hS
      refine wl_m (.tmp 67) (.bool true) ?_
      refine w_nil (xn_then (w_seq (w_seq (w_reg ?_))))
      refine wl_l 31 (.tmp 7) (pt (kf51 6) 0) (nv (pvk s k * 10 / MM)) (run_row Q51 31 0 4 (nvli (pvk s k * 10 / MM)) rfl Tryd.underlying31 rfl sz24) ?_
      refine wl_build 31 [] [] (.agg #[.int .u64 0, .int .u64 0, .int .u64 0, .int .u64 0]) rfl rfl (by kernel_rfl) rfl ?_
      refine wl_b .neq 31 (.tmp 68) (.tmp 69) (nv (pvk s k * 10 / MM)) (.agg #[.int .u64 0, .int .u64 0, .int .u64 0, .int .u64 0]) (.bool false) (nen_run (r := true) hz _ _ _) ?_
      refine wl_m (.tmp 70) (.bool false) ?_
      refine wl_m (.tmp 10) (.bool true) ?_
      refine wl_pick (.tmp 71) (.const (.bool true)) (.tmp 72) false (.bool true) (fun _ => rfl) rfl rfl rfl ?_
      refine w_nil (xn_then (w_condT rfl (w_seq (w_reg ?_))))
      refine wl_build 31 [] [] (.agg #[.int .u64 0, .int .u64 0, .int .u64 0, .int .u64 0]) rfl rfl (by kernel_rfl) rfl ?_
      refine wl_st 31 (.tmp 2) (.tmp 74) k1 0 #[.int .u64 0, .int .u64 0, .int .u64 0, .int .u64 0] _ [.int .u64 0, .int .u64 0, .int .u64 0, .int .u64 0] Q1 rfl rfl e2 rfl rfl sz24 rfl rfl rfl ?_
      intro w56 hS Qn
      replace Q1 := Qn
      clear Qn
      replace Q21 := hS.other _ _ ne_k1_k21.symm Q21
      replace Q51 := hS.other _ _ ne_k1_k51.symm Q51
      replace Q52 := hS.other _ _ ne_k1_k52.symm Q52
      replace Q53 := hS.other _ _ ne_k1_k53.symm Q53
      replace d9 := fun k h => Nat.lt_of_lt_of_le (d9 k h) (Nat.le_of_eq hS.size.symm)
      replace M := hS.mo _ N_k1 M
      clear hS
      refine wl_m (.const (.int .i64 (7))) (.int .i64 (7)) ?_
      refine w_nil (xn_then (w_ret (xr_then (xr_blk (xr_then (xr_then (xr_blk (xr_then ?_))))))))
      exact w_ret2 _ _ (.agg #[.int .u64 0, .int .u64 0, .int .u64 0, .int .u64 0]) (.int .i64 (7)) rfl ⟨k1, e2, (run_row Q1 31 0 4 _ rfl Tryd.underlying31 rfl sz24)⟩ rfl ⟨by rw [resP_over hT hlt hbig], M⟩
    ·have hz := hi1z (show MM ≤ pvk s k * 10 by omega) (show pvk s k * 10 < MM * MM by unfold MM at *; omega)
     obtain ⟨Z, o, hsum⟩ := rsum_any (pvk s k * 10) ((s[k].toNat : Int) - 48)
     have hbig : ¬ pvk s k * 10 + ((s[k].toNat : Int) - 48) < MM := by omega
     refine w_seq (w_seq (w_reg ?_))
     refine wl_mv (.tmp 6) (.int .i64 ((k : Int))) (fun _ => rfl) e6 rfl ?_
     refine wl_mv (.tmp 0) (.string s) (fun _ => rfl) e0 rfl ?_
     refine wl_val (.int .i64 ((s.size : Int))) (len_run _ _ s rfl _ _ _ _ _ _) rfl ?_
     refine wl_b .lss 3 (.tmp 45) (.tmp 47) (.int .i64 ((k : Int))) (.int .i64 ((s.size : Int))) (.bool true) (lt3_run hl _ _ _) ?_
     refine w_nil (xn_then (w_condT rfl (w_skip (xn_then (w_seq (w_block (w_seq ?_)))))))
     refine w_any 8 [.inl (nv (pvk s k)), .inl (nv (10)), .inl (.tuple #[nv (pvk s k * 10 / MM), nv (pvk s k * 10)]), .inl (.tuple #[nv (pvk s k * 10 / MM), nv (pvk s k * 10)]), .inl (nv (pvk s k * 10 / MM)), .inl (nv (pvk s k * 10)), .inr [.int .u64 0, .int .u64 0, .int .u64 0, .int .u64 0], .inr [.int .u64 0, .int .u64 0, .int .u64 0, .int .u64 0]] [5] (by kernel_rfl) (by kernel_rfl) (by kernel_rfl) (by kernel_rfl) rfl (by kernel_rfl) (by kernel_rfl) (late_cons ⟨_, _, rfl, rfl, fun _ _ _ _ h => h, fun f hd => ⟨rfl, la_un (fun v => Instr.extract v 1) (.tmp 51) (.tuple #[nv (pvk s k * 10 / MM), nv (pvk s k * 10)]) (nv (pvk s k * 10)) (fun _ => rfl) (hd 3 rfl _ rfl) (fun w => by kernel_rfl)⟩⟩ late_nil) ?_ ?_ ?_
     ·exact Ds.two 6 7 (fun q hq => by rcases q with _ | _ | _ | _ | _ | _ | _ | _ | q <;> first | (left; rfl) | (right; rfl) | cases hq) d7 d8 d78
     ·refine ea_cons ?_ (ea_cons ?_ (ea_cons ?_ (ea_cons ?_ (ea_cons ?_ (ea_cons ?_ (ea_cons ?_ (ea_cons ?_ (ea_nil))))))))
      ·exact og_eq _ rfl (fun f wf hq hd K hK => have Q21 := Q21.mo hq; go_run rfl (wo_load 31 (.tmp 5) (pt k21 0) (nv (pvk s k)) rfl e5 (run_row Q21 31 0 4 (nvli (pvk s k)) rfl Tryd.underlying31 rfl sz24) (hK _ (Mo.refl _))))
      ·exact og_eq _ rfl (fun f wf hq hd K hK => go_run rfl (wo_call 64 [(.const (.int .u64 (10)))] _ [.int .u64 (10)] (nv (10)) rfl rfl (fun _ _ => by kernel_rfl) (from69_n _) hK))
      ·exact og_eq _ rfl (fun f wf hq hd K hK => go_run rfl (wo_call 63 [(.tmp 52), (.tmp 53)] _ [nv (pvk s k), nv (10)] (.tuple #[nv (pvk s k * 10 / MM), nv (pvk s k * 10)]) rfl (li2 (hd 0 rfl) (hd 1 rfl)) (fun _ _ => by kernel_rfl) (rmul_n (pvk s k) 10 _ hv0 hv (by decide) (by decide)) hK))
      ·exact og_eq _ rfl (fun f wf hq hd K hK => go_run rfl (wo_mv (.tmp 54) (.tuple #[nv (pvk s k * 10 / MM), nv (pvk s k * 10)]) (fun _ => rfl) (hd 2 rfl) (hK _ (Mo.refl _))))
      ·exact og_eq _ rfl (fun f wf hq hd K hK => go_run rfl (wo_un (fun v => Instr.extract v 0) (.tmp 51) (.tuple #[nv (pvk s k * 10 / MM), nv (pvk s k * 10)]) (nv (pvk s k * 10 / MM)) (fun _ => rfl) (hd 3 rfl) (by kernel_rfl) (hK _ (Mo.refl _))))
      ·exact og_eq _ rfl (fun f wf hq hd K hK => go_run rfl (wo_un (fun v => Instr.extract v 1) (.tmp 51) (.tuple #[nv (pvk s k * 10 / MM), nv (pvk s k * 10)]) (nv (pvk s k * 10)) (fun _ => rfl) (hd 3 rfl) (by kernel_rfl) (hK _ (Mo.refl _))))
      ·exact og_new [.int .u64 0, .int .u64 0, .int .u64 0, .int .u64 0] rfl (fun f wf hq hd K hK => go_run rfl (wo_alloc 31 #[.int .u64 0, .int .u64 0, .int .u64 0, .int .u64 0] rfl (fun _ => by kernel_rfl) hK))
      ·exact og_new [.int .u64 0, .int .u64 0, .int .u64 0, .int .u64 0] rfl (fun f wf hq hd K hK => go_run rfl (wo_alloc 31 #[.int .u64 0, .int .u64 0, .int .u64 0, .int .u64 0] rfl (fun _ => by kernel_rfl) hK))
     intro kf51 w51 hq hR hne
     obtain ⟨N_k51, Q51⟩ := hR 6 _ rfl rfl
     obtain ⟨N_k52, Q52⟩ := hR 7 _ rfl rfl
     have ne_k1_k51 : k1 ≠ (kf51 6) := by have := Q1.lt; omega
     have ne_k21_k51 : k21 ≠ (kf51 6) := by have := Q21.lt; omega
     have ne_k51_k52 := hne 6 7 rfl rfl rfl rfl (by decide)
     replace N_k51 := Nat.le_trans M.size N_k51
     have ne_k1_k52 : k1 ≠ (kf51 7) := by have := Q1.lt; omega
     have ne_k21_k52 : k21 ≠ (kf51 7) := by have := Q21.lt; omega
     replace N_k52 := Nat.le_trans M.size N_k52
     replace d9 := fun k h => Nat.lt_of_lt_of_le (d9 k h) hq.size
     replace Q1 := Q1.mo hq
     replace Q21 := Q21.mo hq
     replace M := M.trans hq
     clear hq hR hne
     refine wl_st 31 (.tmp 7) (.tmp 55) (kf51 6) 0 (nvar (pvk s k * 10 / MM)) _ (nvli (pvk s k * 10 / MM)) Q51 rfl rfl rfl rfl rfl sz24 rfl rfl rfl ?_
     intro w52 hS Qn
     replace Q51 := Qn
     clear Qn
     replace Q1 := hS.other _ _ ne_k1_k51 Q1
     replace Q21 := hS.other _ _ ne_k21_k51 Q21
     replace Q52 := hS.other _ _ ne_k51_k52.symm Q52
     replace d9 := fun k h => Nat.lt_of_lt_of_le (d9 k h) (Nat.le_of_eq hS.size.symm)
     replace M := hS.mo _ N_k51 M
     clear hS
     refine wl_st 31 (.tmp 8) (.tmp 56) (kf51 7) 0 (nvar (pvk s k * 10)) _ (nvli (pvk s k * 10)) Q52 rfl rfl rfl rfl rfl sz24 rfl rfl rfl ?_
     intro w53 hS Qn
     replace Q52 := Qn
     clear Qn
     replace Q1 := hS.other _ _ ne_k1_k52 Q1
     replace Q21 := hS.other _ _ ne_k21_k52 Q21
     replace Q51 := hS.other _ _ ne_k51_k52 Q51
     replace d9 := fun k h => Nat.lt_of_lt_of_le (d9 k h) (Nat.le_of_eq hS.size.symm)
     replace M := hS.mo _ N_k52 M
     clear hS
     refine w_nil (xn_then (w_seq ?_))
     refine w_any 12 [.inl (nv (pvk s k * 10)), .inl (.string s), .inl (.int .i64 ((k : Int))), .inl (.int .u8 (s[k].toNat : Int)), .inl (.int .u8 ((s[k].toNat : Int) - 48)), .inl (.int .u64 ((s[k].toNat : Int) - 48)), .inl (nv (((s[k].toNat : Int) - 48))), .inl (.tuple #[nv (Z), .bool (o)]), .inl (.tuple #[nv (Z), .bool (o)]), .inl (nv (Z)), .inl (.bool (o)), .inr [.int .u64 0, .int .u64 0, .int .u64 0, .int .u64 0]] [10] (by kernel_rfl) (by kernel_rfl) (by kernel_rfl) (by kernel_rfl) rfl (by kernel_rfl) (by kernel_rfl) (late_cons ⟨_, _, rfl, rfl, fun _ _ _ _ h => h, fun f hd => ⟨rfl, la_un (fun v => Instr.extract v 1) (.tmp 57) (.tuple #[nv (Z), .bool (o)]) (.bool (o)) (fun _ => rfl) (hd 8 rfl _ rfl) (fun w => by kernel_rfl)⟩⟩ late_nil) ?_ ?_ ?_
     ·exact Ds.one 11 (fun q hq => by rcases q with _ | _ | _ | _ | _ | _ | _ | _ | _ | _ | _ | _ | q <;> first | rfl | cases hq) d9
     ·refine ea_cons ?_ (ea_cons ?_ (ea_cons ?_ (ea_cons ?_ (ea_cons ?_ (ea_cons ?_ (ea_cons ?_ (ea_cons ?_ (ea_cons ?_ (ea_cons ?_ (ea_cons ?_ (ea_cons ?_ (ea_nil))))))))))))
      ·exact og_eq _ rfl (fun f wf hq hd K hK => have Q52 := Q52.mo hq; go_run rfl (wo_load 31 (.tmp 8) (pt (kf51 7) 0) (nv (pvk s k * 10)) rfl rfl (run_row Q52 31 0 4 (nvli (pvk s k * 10)) rfl Tryd.underlying31 rfl sz24) (hK _ (Mo.refl _))))
      ·exact og_eq _ rfl (fun f wf hq hd K hK => go_run rfl (wo_mv (.tmp 0) (.string s) (fun _ => rfl) e0 (hK _ (Mo.refl _))))
      ·exact og_eq _ rfl (fun f wf hq hd K hK => go_run rfl (wo_mv (.tmp 6) (.int .i64 ((k : Int))) (fun _ => rfl) e6 (hK _ (Mo.refl _))))
      ·exact og_eq _ rfl (fun f wf hq hd K hK => go_run rfl (wo_bin (fun x y => Instr.index 9 x y) (.tmp 59) (.tmp 60) (.string s) (.int .i64 ((k : Int))) (.int .u8 (s[k].toNat : Int)) (fun _ => rfl) (hd 1 rfl) (hd 2 rfl) (idx_s s k hlt _) (hK _ (Mo.refl _))))
      ·exact og_eq _ rfl (fun f wf hq hd K hK => go_run rfl (wo_bin (fun x y => do eqGuard .sub 5 (.tmp 61) (.const (.int .u8 (48))) x y; binOp .sub 5 x y) (.tmp 61) (.const (.int .u8 (48))) (.int .u8 (s[k].toNat : Int)) (.int .u8 (48)) (.int .u8 ((s[k].toNat : Int) - 48)) (fun _ => rfl) (hd 3 rfl) rfl (subu8_run hc.1 hc.2 _ _ _) (hK _ (Mo.refl _))))
      ·exact og_eq _ rfl (fun f wf hq hd K hK => go_run rfl (wo_un (fun v => convert 5 29 v) (.tmp 62) (.int .u8 ((s[k].toNat : Int) - 48)) (.int .u64 ((s[k].toNat : Int) - 48)) (fun _ => rfl) (hd 4 rfl) (cv8_run (by omega) (by omega) _) (hK _ (Mo.refl _))))
      ·exact og_eq _ rfl (fun f wf hq hd K hK => go_run rfl (wo_call 64 [(.tmp 63)] _ [.int .u64 ((s[k].toNat : Int) - 48)] (nv (((s[k].toNat : Int) - 48))) rfl (li1 (hd 5 rfl)) (fun _ _ => by kernel_rfl) (from34_any ((s[k].toNat : Int) - 48) _ ⟨by omega, by omega⟩) hK))
      ·exact og_eq _ rfl (fun f wf hq hd K hK => go_run rfl (wo_call 65 [(.tmp 58), (.tmp 64)] _ [nv (pvk s k * 10), nv (((s[k].toNat : Int) - 48))] (.tuple #[nv (Z), .bool (o)]) rfl (li2 (hd 0 rfl) (hd 6 rfl)) (fun _ _ => by kernel_rfl) (hsum _) hK))
      ·exact og_eq _ rfl (fun f wf hq hd K hK => go_run rfl (wo_mv (.tmp 65) (.tuple #[nv (Z), .bool (o)]) (fun _ => rfl) (hd 7 rfl) (hK _ (Mo.refl _))))
      ·exact og_eq _ rfl (fun f wf hq hd K hK => go_run rfl (wo_un (fun v => Instr.extract v 0) (.tmp 57) (.tuple #[nv (Z), .bool (o)]) (nv (Z)) (fun _ => rfl) (hd 8 rfl) (by kernel_rfl) (hK _ (Mo.refl _))))
      ·exact og_eq _ rfl (fun f wf hq hd K hK => go_run rfl (wo_un (fun v => Instr.extract v 1) (.tmp 57) (.tuple #[nv (Z), .bool (o)]) (.bool (o)) (fun _ => rfl) (hd 8 rfl) (by kernel_rfl) (hK _ (Mo.refl _))))
      ·exact og_new [.int .u64 0, .int .u64 0, .int .u64 0, .int .u64 0] rfl (fun f wf hq hd K hK => go_run rfl (wo_alloc 31 #[.int .u64 0, .int .u64 0, .int .u64 0, .int .u64 0] rfl (fun _ => by kernel_rfl) hK))
     intro kf54 w54 hq hR hne
     obtain ⟨N_k53, Q53⟩ := hR 11 _ rfl rfl
     have ne_k1_k53 : k1 ≠ (kf54 11) := by have := Q1.lt; omega
     have ne_k21_k53 : k21 ≠ (kf54 11) := by have := Q21.lt; omega
     have ne_k51_k53 : (kf51 6) ≠ (kf54 11) := by have := Q51.lt; omega
     have ne_k52_k53 : (kf51 7) ≠ (kf54 11) := by have := Q52.lt; omega
     replace N_k53 := Nat.le_trans M.size N_k53
     replace d9 := fun k h => Nat.lt_of_lt_of_le (d9 k h) hq.size
     replace Q1 := Q1.mo hq
     replace Q21 := Q21.mo hq
     replace Q51 := Q51.mo hq
     replace Q52 := Q52.mo hq
     replace M := M.trans hq
     clear hq hR hne
     refine wl_st 31 (.tmp 9) (.tmp 66) (kf54 11) 0 (nvar (Z)) _ (nvli (Z)) Q53 rfl rfl rfl rfl rfl sz24 rfl rfl rfl ?_
     intro w55 hS Qn
     replace Q53 := Qn
     clear Qn
     replace Q1 := hS.other _ _ ne_k1_k53 Q1
     replace Q21 := hS.other _ _ ne_k21_k53 Q21
     replace Q51 := hS.other _ _ ne_k51_k53 Q51
     replace Q52 := hS.other _ _ ne_k52_k53 Q52
     replace d9 := fun k h => Nat.lt_of_lt_of_le (d9 k h) (Nat.le_of_eq hS.size.symm)
     replace M := hS.mo _ N_k53 M
     clear hS
     refine wl_m (.tmp 67) (.bool (o)) ?_
     refine w_nil (xn_then (w_seq (w_seq (w_reg ?_))))
     refine wl_l 31 (.tmp 7) (pt (kf51 6) 0) (nv (pvk s k * 10 / MM)) (run_row Q51 31 0 4 (nvli (pvk s k * 10 / MM)) rfl Tryd.underlying31 rfl sz24) ?_
     refine wl_build 31 [] [] (.agg #[.int .u64 0, .int .u64 0, .int .u64 0, .int .u64 0]) rfl rfl (by kernel_rfl) rfl ?_
     refine wl_b .neq 31 (.tmp 68) (.tmp 69) (nv (pvk s k * 10 / MM)) (.agg #[.int .u64 0, .int .u64 0, .int .u64 0, .int .u64 0]) (.bool true) (nen_run (r := false) hz _ _ _) ?_
     refine wl_m (.tmp 70) (.bool true) ?_
     refine wl_skip rfl ?_
     refine wl_pick (.tmp 71) (.const (.bool true)) (.tmp 72) true (.bool true) (fun _ => rfl) rfl rfl rfl ?_
     refine w_nil (xn_then (w_condT rfl (w_seq (w_reg ?_))))
     refine wl_build 31 [] [] (.agg #[.int .u64 0, .int .u64 0, .int .u64 0, .int .u64 0]) rfl rfl (by kernel_rfl) rfl ?_
     refine wl_st 31 (.tmp 2) (.tmp 74) k1 0 #[.int .u64 0, .int .u64 0, .int .u64 0, .int .u64 0] _ [.int .u64 0, .int .u64 0, .int .u64 0, .int .u64 0] Q1 rfl rfl e2 rfl rfl sz24 rfl rfl rfl ?_
     intro w56 hS Qn
     replace Q1 := Qn
     clear Qn
     replace Q21 := hS.other _ _ ne_k1_k21.symm Q21
     replace Q51 := hS.other _ _ ne_k1_k51.symm Q51
     replace Q52 := hS.other _ _ ne_k1_k52.symm Q52
     replace Q53 := hS.other _ _ ne_k1_k53.symm Q53
     replace d9 := fun k h => Nat.lt_of_lt_of_le (d9 k h) (Nat.le_of_eq hS.size.symm)
     replace M := hS.mo _ N_k1 M
     clear hS
     refine wl_m (.const (.int .i64 (7))) (.int .i64 (7)) ?_
     refine w_nil (xn_then (w_ret (xr_then (xr_blk (xr_then (xr_then (xr_blk (xr_then ?_))))))))
     exact w_ret2 _ _ (.agg #[.int .u64 0, .int .u64 0, .int .u64 0, .int .u64 0]) (.int .i64 (7)) rfl ⟨k1, e2, (run_row Q1 31 0 4 _ rfl Tryd.underlying31 rfl sz24)⟩ rfl ⟨by rw [resP_over hT hlt hbig], M⟩
   ·have hl : decide ((k : Int) < (s.size : Int)) = false := decide_eq_false (by omega)
    refine w_seq (w_seq (w_reg ?_))
    refine wl_mv (.tmp 6) (.int .i64 ((k : Int))) (fun _ => rfl) e6 rfl ?_
    refine wl_mv (.tmp 0) (.string s) (fun _ => rfl) e0 rfl ?_
    refine wl_val (.int .i64 ((s.size : Int))) (len_run _ _ s rfl _ _ _ _ _ _) rfl ?_
    refine wl_b .lss 3 (.tmp 45) (.tmp 47) (.int .i64 ((k : Int))) (.int .i64 ((s.size : Int))) (.bool false) (lt3_run hl _ _ _) ?_
    refine w_nil (xn_then (w_condF rfl (w_exit (xx_then (xx_then (xx_blk (xn_then (w_seq (w_reg ?_)))))))))
    refine wl_load 31 (.tmp 5) (pt k21 0) (nv (pvk s k)) rfl e5 (run_row Q21 31 0 4 (nvli (pvk s k)) rfl Tryd.underlying31 rfl sz24) rfl ?_
    refine wl_st 31 (.tmp 2) (.tmp 76) k1 0 (nvar (pvk s k)) _ (nvli (pvk s k)) Q1 rfl rfl e2 rfl rfl sz24 rfl rfl rfl ?_
    intro w51 hS Qn
    replace Q1 := Qn
    clear Qn
    replace Q21 := hS.other _ _ ne_k1_k21.symm Q21
    replace d9 := fun k h => Nat.lt_of_lt_of_le (d9 k h) (Nat.le_of_eq hS.size.symm)
    replace M := hS.mo _ N_k1 M
    clear hS
    refine wl_m (.const (.int .i64 (0))) (.int .i64 (0)) ?_
    refine w_nil (xn_then (w_ret ?_))
    exact w_ret2 _ _ (nv (pvk s k)) (.int .i64 (0)) rfl ⟨k1, e2, (run_row Q1 31 0 4 (nvli (pvk s k)) rfl Tryd.underlying31 rfl sz24)⟩ rfl ⟨by rw [resP_ok (pvk_end hk hlt hv), ← pvk_eq hk hlt], M⟩
theorem rparse_b (s : ByteArray) (w : World) [Decidable (isT s)] (hs : s.size ≤ maxLen) (h0 : s.toList.isEmpty = false) (hp : 0 < s.size) (hlead : ¬ (s.size > 1 ∧ (s[0].toNat : Int) = 48)) (hz0 : s.size > 1 → (s[0].toNat : Int) ≠ 48) (h1 : ((s[0].toNat : Int) == 48) = true) (h2 : decide ((s.size : Int) > 1) = false) : Calls Tryd.prog 51 #[.string s] w fun e w' => e = .returned (if isT s then resP s else ez 10) ∧ Mo w w' := by
 refine w_enter 77 Tryd.func51 Tryd.ntmps51 rfl rfl ?_
 have M : Mo w w := Mo.refl _
 refine w_seq (w_reg ?_)
 refine wl_alloc 31 #[.int .u64 0, .int .u64 0, .int .u64 0, .int .u64 0] rfl (fun _ => by kernel_rfl) rfl ?_
 intro k1 w1 hk hz hq Q1
 have N_k1 : w.heap.size ≤ k1 := by have := M.size; omega
 replace M := M.trans hq
 clear hk hz hq
 refine wl_m (.const (.int .i64 (0))) (.int .i64 (0)) ?_
 refine w_nil (xn_then (w_seq (w_seq (w_reg ?_))))
 refine wl_m (.tmp 0) (.string s) ?_
 refine wl_b .eql 9 (.tmp 11) (.const (.string ⟨#[]⟩)) (.string s) (.string ⟨#[]⟩) (.bool false) (eqe_run h0 _ _ _) ?_
 refine wl_m (.tmp 12) (.bool false) ?_
 refine wl_m (.tmp 0) (.string s) ?_
 refine wl_bin (fun x y => Instr.index 9 x y) (.tmp 14) (.const (.int .i64 (0))) (.string s) (.int .i64 (0)) (.int .u8 (s[0].toNat : Int)) (fun _ => rfl) rfl rfl (idx_0 s hp _) rfl ?_
 refine wl_b .eql 5 (.tmp 15) (.const (.int .u8 (48))) (.int .u8 (s[0].toNat : Int)) (.int .u8 (48)) (.bool true) (eq5_run h1 _ _ _) ?_
 refine wl_m (.tmp 16) (.bool true) ?_
 refine wl_m (.tmp 0) (.string s) ?_
 refine wl_val (.int .i64 ((s.size : Int))) (len_run _ _ s rfl _ _ _ _ _ _) rfl ?_
 refine wl_b .gtr 3 (.tmp 19) (.const (.int .i64 (1))) (.int .i64 ((s.size : Int))) (.int .i64 (1)) (.bool false) (gt3_run h2 _ _ _) ?_
 refine wl_pick (.tmp 17) (.tmp 20) (.const (.bool false)) true (.bool false) (fun _ => rfl) rfl rfl rfl ?_
 refine wl_pick (.tmp 13) (.const (.bool true)) (.tmp 21) false (.bool false) (fun _ => rfl) rfl rfl rfl ?_
 refine w_nil (xn_then (w_condF rfl (w_skip (xn_then (w_seq (w_seq (w_reg ?_)))))))
 refine wl_m (.const (.int .i64 (0))) (.int .i64 (0)) ?_
 refine w_nil (xn_then (w_block ?_))
 refine w_loop (fun m l w1 => ∃ k : Nat, k + m = s.size ∧ look l 0 = .string s ∧ look l 4 = .int .i64 (k : Int) ∧ look l 2 = pt k1 0 ∧ At w1 k1 [.int .u64 0, .int .u64 0, .int .u64 0, .int .u64 0] ∧ dgs s k ∧ Mo w w1 ∧ (isPt (look l 7) = false ∧ isPt (look l 8) = false ∧ isPt (look l 9) = false)) s.size ⟨0, by omega, rfl, rfl, rfl, Q1, fun j _ h => absurd h (Nat.not_lt_zero _), M, rfl, rfl, rfl⟩ ?_
 clear M Q1
 rintro m l wl ⟨k, hk, e0, e4, e2, Q1, hd, M, i7, i8, i9⟩
 by_cases hlt : k < s.size
 ·have hl : decide ((k : Int) < (s.size : Int)) = true := decide_eq_true (by omega)
  cases ha : decide ((s[k].toNat : Int) < 48) with
  | true =>
   refine w_seq (w_seq (w_reg ?_))
   refine wl_mv (.tmp 4) (.int .i64 ((k : Int))) (fun _ => rfl) e4 rfl ?_
   refine wl_mv (.tmp 0) (.string s) (fun _ => rfl) e0 rfl ?_
   refine wl_val (.int .i64 ((s.size : Int))) (len_run _ _ s rfl _ _ _ _ _ _) rfl ?_
   refine wl_b .lss 3 (.tmp 24) (.tmp 26) (.int .i64 ((k : Int))) (.int .i64 ((s.size : Int))) (.bool true) (lt3_run hl _ _ _) ?_
   refine w_nil (xn_then (w_condT rfl (w_skip (xn_then (w_seq (w_block (w_seq (w_reg ?_))))))))
   refine wl_mv (.tmp 0) (.string s) (fun _ => rfl) e0 rfl ?_
   refine wl_mv (.tmp 4) (.int .i64 ((k : Int))) (fun _ => rfl) e4 rfl ?_
   refine wl_bin (fun x y => Instr.index 9 x y) (.tmp 30) (.tmp 31) (.string s) (.int .i64 ((k : Int))) (.int .u8 (s[k].toNat : Int)) (fun _ => rfl) rfl rfl (idx_s s k hlt _) rfl ?_
   refine wl_b .lss 5 (.tmp 32) (.const (.int .u8 (48))) (.int .u8 (s[k].toNat : Int)) (.int .u8 (48)) (.bool true) (ls5 ha _ _ _) ?_
   refine wl_m (.tmp 33) (.bool true) ?_
   refine wl_skip rfl (wl_skip rfl (wl_skip rfl (wl_skip rfl ?_)))
   refine wl_pick (.tmp 34) (.const (.bool true)) (.tmp 38) true (.bool true) (fun _ => rfl) rfl rfl rfl ?_
   refine w_nil (xn_then (w_condT rfl (w_seq (w_reg ?_))))
   refine wl_build 31 [] [] (.agg #[.int .u64 0, .int .u64 0, .int .u64 0, .int .u64 0]) rfl rfl (by kernel_rfl) rfl ?_
   refine wl_st 31 (.tmp 2) (.tmp 40) k1 0 #[.int .u64 0, .int .u64 0, .int .u64 0, .int .u64 0] _ [.int .u64 0, .int .u64 0, .int .u64 0, .int .u64 0] Q1 rfl rfl e2 rfl rfl sz24 rfl rfl rfl ?_
   intro w21 hS Qn
   replace Q1 := Qn
   clear Qn
   replace M := hS.mo _ N_k1 M
   clear hS
   refine wl_m (.const (.int .i64 (10))) (.int .i64 (10)) ?_
   refine w_nil (xn_then (w_ret (xr_blk (xr_then (xr_then (xr_blk (xr_then ?_)))))))
   exact w_ret2 _ _ (.agg #[.int .u64 0, .int .u64 0, .int .u64 0, .int .u64 0]) (.int .i64 (10)) rfl ⟨k1, e2, (run_row Q1 31 0 4 _ rfl Tryd.underlying31 rfl sz24)⟩ rfl ⟨by rw [if_neg (fun hT : isT s => by obtain ⟨_, _, h3⟩ := hT; have := h3 k hlt hlt; have := of_decide_eq_true ha; omega)], M⟩
  | false =>
   cases hb : decide ((s[k].toNat : Int) > 57) with
   | true =>
    refine w_seq (w_seq (w_reg ?_))
    refine wl_mv (.tmp 4) (.int .i64 ((k : Int))) (fun _ => rfl) e4 rfl ?_
    refine wl_mv (.tmp 0) (.string s) (fun _ => rfl) e0 rfl ?_
    refine wl_val (.int .i64 ((s.size : Int))) (len_run _ _ s rfl _ _ _ _ _ _) rfl ?_
    refine wl_b .lss 3 (.tmp 24) (.tmp 26) (.int .i64 ((k : Int))) (.int .i64 ((s.size : Int))) (.bool true) (lt3_run hl _ _ _) ?_
    refine w_nil (xn_then (w_condT rfl (w_skip (xn_then (w_seq (w_block (w_seq (w_reg ?_))))))))
    refine wl_mv (.tmp 0) (.string s) (fun _ => rfl) e0 rfl ?_
    refine wl_mv (.tmp 4) (.int .i64 ((k : Int))) (fun _ => rfl) e4 rfl ?_
    refine wl_bin (fun x y => Instr.index 9 x y) (.tmp 30) (.tmp 31) (.string s) (.int .i64 ((k : Int))) (.int .u8 (s[k].toNat : Int)) (fun _ => rfl) rfl rfl (idx_s s k hlt _) rfl ?_
    refine wl_b .lss 5 (.tmp 32) (.const (.int .u8 (48))) (.int .u8 (s[k].toNat : Int)) (.int .u8 (48)) (.bool false) (ls5 ha _ _ _) ?_
    refine wl_m (.tmp 33) (.bool false) ?_
    refine wl_mv (.tmp 0) (.string s) (fun _ => rfl) e0 rfl ?_
    refine wl_mv (.tmp 4) (.int .i64 ((k : Int))) (fun _ => rfl) e4 rfl ?_
    refine wl_bin (fun x y => Instr.index 9 x y) (.tmp 35) (.tmp 36) (.string s) (.int .i64 ((k : Int))) (.int .u8 (s[k].toNat : Int)) (fun _ => rfl) rfl rfl (idx_s s k hlt _) rfl ?_
    refine wl_b .gtr 5 (.tmp 37) (.const (.int .u8 (57))) (.int .u8 (s[k].toNat : Int)) (.int .u8 (57)) (.bool true) (gt5_run hb _ _ _) ?_
    refine wl_pick (.tmp 34) (.const (.bool true)) (.tmp 38) false (.bool true) (fun _ => rfl) rfl rfl rfl ?_
    refine w_nil (xn_then (w_condT rfl (w_seq (w_reg ?_))))
    refine wl_build 31 [] [] (.agg #[.int .u64 0, .int .u64 0, .int .u64 0, .int .u64 0]) rfl rfl (by kernel_rfl) rfl ?_
    refine wl_st 31 (.tmp 2) (.tmp 40) k1 0 #[.int .u64 0, .int .u64 0, .int .u64 0, .int .u64 0] _ [.int .u64 0, .int .u64 0, .int .u64 0, .int .u64 0] Q1 rfl rfl e2 rfl rfl sz24 rfl rfl rfl ?_
    intro w21 hS Qn
    replace Q1 := Qn
    clear Qn
    replace M := hS.mo _ N_k1 M
    clear hS
    refine wl_m (.const (.int .i64 (10))) (.int .i64 (10)) ?_
    refine w_nil (xn_then (w_ret (xr_blk (xr_then (xr_then (xr_blk (xr_then ?_)))))))
    exact w_ret2 _ _ (.agg #[.int .u64 0, .int .u64 0, .int .u64 0, .int .u64 0]) (.int .i64 (10)) rfl ⟨k1, e2, (run_row Q1 31 0 4 _ rfl Tryd.underlying31 rfl sz24)⟩ rfl ⟨by rw [if_neg (fun hT : isT s => by obtain ⟨_, _, h3⟩ := hT; have := h3 k hlt hlt; have := of_decide_eq_true hb; omega)], M⟩
   | false =>
    refine w_seq (w_seq (w_reg ?_))
    refine wl_mv (.tmp 4) (.int .i64 ((k : Int))) (fun _ => rfl) e4 rfl ?_
    refine wl_mv (.tmp 0) (.string s) (fun _ => rfl) e0 rfl ?_
    refine wl_val (.int .i64 ((s.size : Int))) (len_run _ _ s rfl _ _ _ _ _ _) rfl ?_
    refine wl_b .lss 3 (.tmp 24) (.tmp 26) (.int .i64 ((k : Int))) (.int .i64 ((s.size : Int))) (.bool true) (lt3_run hl _ _ _) ?_
    refine w_nil (xn_then (w_condT rfl (w_skip (xn_then (w_seq (w_block (w_seq (w_reg ?_))))))))
    refine wl_mv (.tmp 0) (.string s) (fun _ => rfl) e0 rfl ?_
    refine wl_mv (.tmp 4) (.int .i64 ((k : Int))) (fun _ => rfl) e4 rfl ?_
    refine wl_bin (fun x y => Instr.index 9 x y) (.tmp 30) (.tmp 31) (.string s) (.int .i64 ((k : Int))) (.int .u8 (s[k].toNat : Int)) (fun _ => rfl) rfl rfl (idx_s s k hlt _) rfl ?_
    refine wl_b .lss 5 (.tmp 32) (.const (.int .u8 (48))) (.int .u8 (s[k].toNat : Int)) (.int .u8 (48)) (.bool false) (ls5 ha _ _ _) ?_
    refine wl_m (.tmp 33) (.bool false) ?_
    refine wl_mv (.tmp 0) (.string s) (fun _ => rfl) e0 rfl ?_
    refine wl_mv (.tmp 4) (.int .i64 ((k : Int))) (fun _ => rfl) e4 rfl ?_
    refine wl_bin (fun x y => Instr.index 9 x y) (.tmp 35) (.tmp 36) (.string s) (.int .i64 ((k : Int))) (.int .u8 (s[k].toNat : Int)) (fun _ => rfl) rfl rfl (idx_s s k hlt _) rfl ?_
    refine wl_b .gtr 5 (.tmp 37) (.const (.int .u8 (57))) (.int .u8 (s[k].toNat : Int)) (.int .u8 (57)) (.bool false) (gt5_run hb _ _ _) ?_
    refine wl_pick (.tmp 34) (.const (.bool true)) (.tmp 38) false (.bool false) (fun _ => rfl) rfl rfl rfl ?_
    refine w_nil (xn_then (w_condF rfl (w_skip (xn_blk (xn_then (w_reg ?_))))))
    refine wl_mv (.tmp 4) (.int .i64 ((k : Int))) (fun _ => rfl) e4 rfl ?_
    refine wl_b .add 3 (.tmp 28) (.const (.int .i64 (1))) (.int .i64 ((k : Int))) (.int .i64 (1)) (.int .i64 (((k + 1 : Nat) : Int))) (add1_run (by unfold maxLen at hs; omega) _ _ _) ?_
    refine wl_m (.tmp 29) (.int .i64 (((k + 1 : Nat) : Int))) ?_
    refine w_nil ?_
    exact xn_loop (s.size - (k + 1)) (by omega) ⟨k + 1, by omega, e0, rfl, e2, Q1, dgs_succ hlt hd (by have := of_decide_eq_false ha; omega) (by have := of_decide_eq_false hb; omega), M, i7, i8, i9⟩
 ·have hl : decide ((k : Int) < (s.size : Int)) = false := decide_eq_false (by omega)
  cases h78 : decide ((s.size : Int) > 78) with
  | true =>
   refine w_seq (w_seq (w_reg ?_))
   refine wl_mv (.tmp 4) (.int .i64 ((k : Int))) (fun _ => rfl) e4 rfl ?_
   refine wl_mv (.tmp 0) (.string s) (fun _ => rfl) e0 rfl ?_
   refine wl_val (.int .i64 ((s.size : Int))) (len_run _ _ s rfl _ _ _ _ _ _) rfl ?_
   refine wl_b .lss 3 (.tmp 24) (.tmp 26) (.int .i64 ((k : Int))) (.int .i64 ((s.size : Int))) (.bool false) (lt3_run hl _ _ _) ?_
   refine w_nil (xn_then (w_condF rfl (w_exit (xx_then (xx_then (xx_blk (xn_then (w_seq (w_seq (w_reg ?_))))))))))
   refine wl_mv (.tmp 0) (.string s) (fun _ => rfl) e0 rfl ?_
   refine wl_val (.int .i64 ((s.size : Int))) (len_run _ _ s rfl _ _ _ _ _ _) rfl ?_
   refine wl_b .gtr 3 (.tmp 42) (.const (.int .i64 (78))) (.int .i64 ((s.size : Int))) (.int .i64 (78)) (.bool true) (gt3_run h78 _ _ _) ?_
   refine w_nil (xn_then (w_condT rfl (w_seq (w_reg ?_))))
   refine wl_build 31 [] [] (.agg #[.int .u64 0, .int .u64 0, .int .u64 0, .int .u64 0]) rfl rfl (by kernel_rfl) rfl ?_
   refine wl_st 31 (.tmp 2) (.tmp 44) k1 0 #[.int .u64 0, .int .u64 0, .int .u64 0, .int .u64 0] _ [.int .u64 0, .int .u64 0, .int .u64 0, .int .u64 0] Q1 rfl rfl e2 rfl rfl sz24 rfl rfl rfl ?_
   intro w21 hS Qn
   replace Q1 := Qn
   clear Qn
   replace M := hS.mo _ N_k1 M
   clear hS
   refine wl_m (.const (.int .i64 (7))) (.int .i64 (7)) ?_
   refine w_nil (xn_then (w_ret (xr_then ?_)))
   exact w_ret2 _ _ (.agg #[.int .u64 0, .int .u64 0, .int .u64 0, .int .u64 0]) (.int .i64 (7)) rfl ⟨k1, e2, (run_row Q1 31 0 4 _ rfl Tryd.underlying31 rfl sz24)⟩ rfl ⟨by rw [if_pos (isT_mk hp hlead (by omega) hd), resP_long hp (dgs_end hk hlt hd) hz0 (by have := of_decide_eq_true h78; omega)], M⟩
  | false =>
   refine w_seq (w_seq (w_reg ?_))
   refine wl_mv (.tmp 4) (.int .i64 ((k : Int))) (fun _ => rfl) e4 rfl ?_
   refine wl_mv (.tmp 0) (.string s) (fun _ => rfl) e0 rfl ?_
   refine wl_val (.int .i64 ((s.size : Int))) (len_run _ _ s rfl _ _ _ _ _ _) rfl ?_
   refine wl_b .lss 3 (.tmp 24) (.tmp 26) (.int .i64 ((k : Int))) (.int .i64 ((s.size : Int))) (.bool false) (lt3_run hl _ _ _) ?_
   refine w_nil (xn_then (w_condF rfl (w_exit (xx_then (xx_then (xx_blk (xn_then (w_seq (w_seq (w_reg ?_))))))))))
   refine wl_mv (.tmp 0) (.string s) (fun _ => rfl) e0 rfl ?_
   refine wl_val (.int .i64 ((s.size : Int))) (len_run _ _ s rfl _ _ _ _ _ _) rfl ?_
   refine wl_b .gtr 3 (.tmp 42) (.const (.int .i64 (78))) (.int .i64 ((s.size : Int))) (.int .i64 (78)) (.bool false) (gt3_run h78 _ _ _) ?_
   refine w_nil (xn_then (w_condF rfl (w_skip (xn_then (w_seq (w_reg ?_))))))
   refine wl_alloc 31 #[.int .u64 0, .int .u64 0, .int .u64 0, .int .u64 0] rfl (fun _ => by kernel_rfl) rfl ?_
   intro k21 w21 hk hz hq Q21
   have ne_k1_k21 : k1 ≠ k21 := by have := Q1.lt; omega
   have N_k21 : w.heap.size ≤ k21 := by have := M.size; omega
   replace Q1 := Q1.mo hq
   replace M := M.trans hq
   clear hk hz hq
   refine w_nil (xn_then (w_seq (w_seq (w_reg ?_))))
   refine wl_m (.const (.int .i64 (0))) (.int .i64 (0)) ?_
   refine w_nil (xn_then (w_block ?_))
   rw [if_pos (isT_mk hp hlead (by omega) hd)]
   have hT := dgs_end hk hlt hd
   refine w_loop (fun m l w1 => ∃ k : Nat, k + m = s.size ∧ look l 0 = .string s ∧ look l 6 = .int .i64 (k : Int) ∧ look l 2 = pt k1 0 ∧ look l 5 = pt k21 0 ∧ At w1 k1 [.int .u64 0, .int .u64 0, .int .u64 0, .int .u64 0] ∧ At w1 k21 (nvli (pvk s k)) ∧ pvk s k < MM ∧ Mo w w1 ∧ (∀ k, look l 7 = pt k 0 → k < w1.heap.size) ∧ (∀ k, look l 8 = pt k 0 → k < w1.heap.size) ∧ (∀ k, look l 7 = pt k 0 → look l 8 ≠ pt k 0) ∧ (∀ k, look l 9 = pt k 0 → k < w1.heap.size)) s.size ⟨0, by omega, e0, rfl, e2, rfl, Q1, Q21, by rw [pvk_z]; decide, M, (fun k h => (npt i7 h).elim), (fun k h => (npt i8 h).elim), (fun k h => (npt i7 h).elim), (fun k h => (npt i9 h).elim)⟩ ?_
   clear M Q1 Q21 hd hl h78 hk e0 e2 e4 i7 i8 i9 hlt
   rintro m2 l2 wl2 ⟨k, hk, e0, e6, e2, e5, Q1, Q21, hv, M, d7, d8, d78, d9⟩
   have hv0 := pvk_nn hT k (by omega)
   by_cases hlt : k < s.size
   ·have hl : decide ((k : Int) < (s.size : Int)) = true := decide_eq_true (by omega)
    have hc := hT k hlt hlt
    have hsz := M.size
    by_cases hhi : pvk s k * 10 < MM
    ·have hz := hi0z (show 0 ≤ pvk s k * 10 by omega) hhi
     by_cases hsm : pvk s k * 10 + ((s[k].toNat : Int) - 48) < MM
     ·obtain ⟨Z, hZ⟩ : ∃ Z, Z = pvk s k * 10 + ((s[k].toNat : Int) - 48) := ⟨_, rfl⟩
      have hsum := fun w => rsum_ok (pvk s k * 10) ((s[k].toNat : Int) - 48) Z w (by omega) (by omega) hZ hhi hsm
      refine w_seq (w_seq (w_reg ?_))
      refine wl_mv (.tmp 6) (.int .i64 ((k : Int))) (fun _ => rfl) e6 rfl ?_
      refine wl_mv (.tmp 0) (.string s) (fun _ => rfl) e0 rfl ?_
      refine wl_val (.int .i64 ((s.size : Int))) (len_run _ _ s rfl _ _ _ _ _ _) rfl ?_
      refine wl_b .lss 3 (.tmp 45) (.tmp 47) (.int .i64 ((k : Int))) (.int .i64 ((s.size : Int))) (.bool true) (lt3_run hl _ _ _) ?_
      refine w_nil (xn_then (w_condT rfl (w_skip (xn_then (w_seq (w_block (w_seq ?_)))))))
      refine w_any 8 [.inl (nv (pvk s k)), .inl (nv (10)), .inl (.tuple #[nv (pvk s k * 10 / MM), nv (pvk s k * 10)]), .inl (.tuple #[nv (pvk s k * 10 / MM), nv (pvk s k * 10)]), .inl (nv (pvk s k * 10 / MM)), .inl (nv (pvk s k * 10)), .inr [.int .u64 0, .int .u64 0, .int .u64 0, .int .u64 0], .inr [.int .u64 0, .int .u64 0, .int .u64 0, .int .u64 0]] [5] (by kernel_rfl) (by kernel_rfl) (by kernel_rfl) (by kernel_rfl) rfl (by kernel_rfl) (by kernel_rfl) (late_cons ⟨_, _, rfl, rfl, fun _ _ _ _ h => h, fun f hd => ⟨rfl, la_un (fun v => Instr.extract v 1) (.tmp 51) (.tuple #[nv (pvk s k * 10 / MM), nv (pvk s k * 10)]) (nv (pvk s k * 10)) (fun _ => rfl) (hd 3 rfl _ rfl) (fun w => by kernel_rfl)⟩⟩ late_nil) ?_ ?_ ?_
      ·exact Ds.two 6 7 (fun q hq => by rcases q with _ | _ | _ | _ | _ | _ | _ | _ | q <;> first | (left; rfl) | (right; rfl) | cases hq) d7 d8 d78
      ·refine ea_cons ?_ (ea_cons ?_ (ea_cons ?_ (ea_cons ?_ (ea_cons ?_ (ea_cons ?_ (ea_cons ?_ (ea_cons ?_ (ea_nil))))))))
       ·exact og_eq _ rfl (fun f wf hq hd K hK => have Q21 := Q21.mo hq; go_run rfl (wo_load 31 (.tmp 5) (pt k21 0) (nv (pvk s k)) rfl e5 (run_row Q21 31 0 4 (nvli (pvk s k)) rfl Tryd.underlying31 rfl sz24) (hK _ (Mo.refl _))))
       ·exact og_eq _ rfl (fun f wf hq hd K hK => go_run rfl (wo_call 64 [(.const (.int .u64 (10)))] _ [.int .u64 (10)] (nv (10)) rfl rfl (fun _ _ => by kernel_rfl) (from69_n _) hK))
       ·exact og_eq _ rfl (fun f wf hq hd K hK => go_run rfl (wo_call 63 [(.tmp 52), (.tmp 53)] _ [nv (pvk s k), nv (10)] (.tuple #[nv (pvk s k * 10 / MM), nv (pvk s k * 10)]) rfl (li2 (hd 0 rfl) (hd 1 rfl)) (fun _ _ => by kernel_rfl) (rmul_n (pvk s k) 10 _ hv0 hv (by decide) (by decide)) hK))
       ·exact og_eq _ rfl (fun f wf hq hd K hK => go_run rfl (wo_mv (.tmp 54) (.tuple #[nv (pvk s k * 10 / MM), nv (pvk s k * 10)]) (fun _ => rfl) (hd 2 rfl) (hK _ (Mo.refl _))))
       ·exact og_eq _ rfl (fun f wf hq hd K hK => go_run rfl (wo_un (fun v => Instr.extract v 0) (.tmp 51) (.tuple #[nv (pvk s k * 10 / MM), nv (pvk s k * 10)]) (nv (pvk s k * 10 / MM)) (fun _ => rfl) (hd 3 rfl) (by kernel_rfl) (hK _ (Mo.refl _))))
       ·exact og_eq _ rfl (fun f wf hq hd K hK => go_run rfl (wo_un (fun v => Instr.extract v 1) (.tmp 51) (.tuple #[nv (pvk s k * 10 / MM), nv (pvk s k * 10)]) (nv (pvk s k * 10)) (fun _ => rfl) (hd 3 rfl) (by kernel_rfl) (hK _ (Mo.refl _))))
       ·exact og_new [.int .u64 0, .int .u64 0, .int .u64 0, .int .u64 0] rfl (fun f wf hq hd K hK => go_run rfl (wo_alloc 31 #[.int .u64 0, .int .u64 0, .int .u64 0, .int .u64 0] rfl (fun _ => by kernel_rfl) hK))
       ·exact og_new [.int .u64 0, .int .u64 0, .int .u64 0, .int .u64 0] rfl (fun f wf hq hd K hK => go_run rfl (wo_alloc 31 #[.int .u64 0, .int .u64 0, .int .u64 0, .int .u64 0] rfl (fun _ => by kernel_rfl) hK))
      intro kf51 w51 hq hR hne
      obtain ⟨N_k51, Q51⟩ := hR 6 _ rfl rfl
      obtain ⟨N_k52, Q52⟩ := hR 7 _ rfl rfl
      have ne_k1_k51 : k1 ≠ (kf51 6) := by have := Q1.lt; omega
      have ne_k21_k51 : k21 ≠ (kf51 6) := by have := Q21.lt; omega
      have ne_k51_k52 := hne 6 7 rfl rfl rfl rfl (by decide)
      replace N_k51 := Nat.le_trans M.size N_k51
      have ne_k1_k52 : k1 ≠ (kf51 7) := by have := Q1.lt; omega
      have ne_k21_k52 : k21 ≠ (kf51 7) := by have := Q21.lt; omega
      replace N_k52 := Nat.le_trans M.size N_k52
      replace d9 := fun k h => Nat.lt_of_lt_of_le (d9 k h) hq.size
      replace Q1 := Q1.mo hq
      replace Q21 := Q21.mo hq
      replace M := M.trans hq
      clear hq hR hne
      refine wl_st 31 (.tmp 7) (.tmp 55) (kf51 6) 0 (nvar (pvk s k * 10 / MM)) _ (nvli (pvk s k * 10 / MM)) Q51 rfl rfl rfl rfl rfl sz24 rfl rfl rfl ?_
      intro w52 hS Qn
      replace Q51 := Qn
      clear Qn
      replace Q1 := hS.other _ _ ne_k1_k51 Q1
      replace Q21 := hS.other _ _ ne_k21_k51 Q21
      replace Q52 := hS.other _ _ ne_k51_k52.symm Q52
      replace d9 := fun k h => Nat.lt_of_lt_of_le (d9 k h) (Nat.le_of_eq hS.size.symm)
      replace M := hS.mo _ N_k51 M
      clear hS
      refine wl_st 31 (.tmp 8) (.tmp 56) (kf51 7) 0 (nvar (pvk s k * 10)) _ (nvli (pvk s k * 10)) Q52 rfl rfl rfl rfl rfl sz24 rfl rfl rfl ?_
      intro w53 hS Qn
      replace Q52 := Qn
      clear Qn
      replace Q1 := hS.other _ _ ne_k1_k52 Q1
      replace Q21 := hS.other _ _ ne_k21_k52 Q21
      replace Q51 := hS.other _ _ ne_k51_k52 Q51
      replace d9 := fun k h => Nat.lt_of_lt_of_le (d9 k h) (Nat.le_of_eq hS.size.symm)
      replace M := hS.mo _ N_k52 M
      clear hS
      refine w_nil (xn_then (w_seq ?_))
      refine w_any 12 [.inl (nv (pvk s k * 10)), .inl (.string s), .inl (.int .i64 ((k : Int))), .inl (.int .u8 (s[k].toNat : Int)), .inl (.int .u8 ((s[k].toNat : Int) - 48)), .inl (.int .u64 ((s[k].toNat : Int) - 48)), .inl (nv (((s[k].toNat : Int) - 48))), .inl (.tuple #[nv (Z), .bool false]), .inl (.tuple #[nv (Z), .bool false]), .inl (nv (Z)), .inl (.bool false), .inr [.int .u64 0, .int .u64 0, .int .u64 0, .int .u64 0]] [10] (by kernel_rfl) (by kernel_rfl) (by kernel_rfl) (by kernel_rfl) rfl (by kernel_rfl) (by kernel_rfl) (late_cons ⟨_, _, rfl, rfl, fun _ _ _ _ h => h, fun f hd => ⟨rfl, la_un (fun v => Instr.extract v 1) (.tmp 57) (.tuple #[nv (Z), .bool false]) (.bool false) (fun _ => rfl) (hd 8 rfl _ rfl) (fun w => by kernel_rfl)⟩⟩ late_nil) ?_ ?_ ?_
      ·exact Ds.one 11 (fun q hq => by rcases q with _ | _ | _ | _ | _ | _ | _ | _ | _ | _ | _ | _ | q <;> first | rfl | cases hq) d9
      ·refine ea_cons ?_ (ea_cons ?_ (ea_cons ?_ (ea_cons ?_ (ea_cons ?_ (ea_cons ?_ (ea_cons ?_ (ea_cons ?_ (ea_cons ?_ (ea_cons ?_ (ea_cons ?_ (ea_cons ?_ (ea_nil))))))))))))
       ·exact og_eq _ rfl (fun f wf hq hd K hK => have Q52 := Q52.mo hq; go_run rfl (wo_load 31 (.tmp 8) (pt (kf51 7) 0) (nv (pvk s k * 10)) rfl rfl (run_row Q52 31 0 4 (nvli (pvk s k * 10)) rfl Tryd.underlying31 rfl sz24) (hK _ (Mo.refl _))))
       ·exact og_eq _ rfl (fun f wf hq hd K hK => go_run rfl (wo_mv (.tmp 0) (.string s) (fun _ => rfl) e0 (hK _ (Mo.refl _))))
       ·exact og_eq _ rfl (fun f wf hq hd K hK => go_run rfl (wo_mv (.tmp 6) (.int .i64 ((k : Int))) (fun _ => rfl) e6 (hK _ (Mo.refl _))))
       ·exact og_eq _ rfl (fun f wf hq hd K hK => go_run rfl (wo_bin (fun x y => Instr.index 9 x y) (.tmp 59) (.tmp 60) (.string s) (.int .i64 ((k : Int))) (.int .u8 (s[k].toNat : Int)) (fun _ => rfl) (hd 1 rfl) (hd 2 rfl) (idx_s s k hlt _) (hK _ (Mo.refl _))))
       ·exact og_eq _ rfl (fun f wf hq hd K hK => go_run rfl (wo_bin (fun x y => do eqGuard .sub 5 (.tmp 61) (.const (.int .u8 (48))) x y; binOp .sub 5 x y) (.tmp 61) (.const (.int .u8 (48))) (.int .u8 (s[k].toNat : Int)) (.int .u8 (48)) (.int .u8 ((s[k].toNat : Int) - 48)) (fun _ => rfl) (hd 3 rfl) rfl (subu8_run hc.1 hc.2 _ _ _) (hK _ (Mo.refl _))))
       ·exact og_eq _ rfl (fun f wf hq hd K hK => go_run rfl (wo_un (fun v => convert 5 29 v) (.tmp 62) (.int .u8 ((s[k].toNat : Int) - 48)) (.int .u64 ((s[k].toNat : Int) - 48)) (fun _ => rfl) (hd 4 rfl) (cv8_run (by omega) (by omega) _) (hK _ (Mo.refl _))))
       ·exact og_eq _ rfl (fun f wf hq hd K hK => go_run rfl (wo_call 64 [(.tmp 63)] _ [.int .u64 ((s[k].toNat : Int) - 48)] (nv (((s[k].toNat : Int) - 48))) rfl (li1 (hd 5 rfl)) (fun _ _ => by kernel_rfl) (from34_any ((s[k].toNat : Int) - 48) _ ⟨by omega, by omega⟩) hK))
       ·exact og_eq _ rfl (fun f wf hq hd K hK => go_run rfl (wo_call 65 [(.tmp 58), (.tmp 64)] _ [nv (pvk s k * 10), nv (((s[k].toNat : Int) - 48))] (.tuple #[nv (Z), .bool false]) rfl (li2 (hd 0 rfl) (hd 6 rfl)) (fun _ _ => by kernel_rfl) (hsum _) hK))
       ·exact og_eq _ rfl (fun f wf hq hd K hK => go_run rfl (wo_mv (.tmp 65) (.tuple #[nv (Z), .bool false]) (fun _ => rfl) (hd 7 rfl) (hK _ (Mo.refl _))))
       ·exact og_eq _ rfl (fun f wf hq hd K hK => go_run rfl (wo_un (fun v => Instr.extract v 0) (.tmp 57) (.tuple #[nv (Z), .bool false]) (nv (Z)) (fun _ => rfl) (hd 8 rfl) (by kernel_rfl) (hK _ (Mo.refl _))))
       ·exact og_eq _ rfl (fun f wf hq hd K hK => go_run rfl (wo_un (fun v => Instr.extract v 1) (.tmp 57) (.tuple #[nv (Z), .bool false]) (.bool false) (fun _ => rfl) (hd 8 rfl) (by kernel_rfl) (hK _ (Mo.refl _))))
       ·exact og_new [.int .u64 0, .int .u64 0, .int .u64 0, .int .u64 0] rfl (fun f wf hq hd K hK => go_run rfl (wo_alloc 31 #[.int .u64 0, .int .u64 0, .int .u64 0, .int .u64 0] rfl (fun _ => by kernel_rfl) hK))
      intro kf54 w54 hq hR hne
      obtain ⟨N_k53, Q53⟩ := hR 11 _ rfl rfl
      have ne_k1_k53 : k1 ≠ (kf54 11) := by have := Q1.lt; omega
      have ne_k21_k53 : k21 ≠ (kf54 11) := by have := Q21.lt; omega
      have ne_k51_k53 : (kf51 6) ≠ (kf54 11) := by have := Q51.lt; omega
      have ne_k52_k53 : (kf51 7) ≠ (kf54 11) := by have := Q52.lt; omega
      replace N_k53 := Nat.le_trans M.size N_k53
      replace d9 := fun k h => Nat.lt_of_lt_of_le (d9 k h) hq.size
      replace Q1 := Q1.mo hq
      replace Q21 := Q21.mo hq
      replace Q51 := Q51.mo hq
      replace Q52 := Q52.mo hq
      replace M := M.trans hq
      clear hq hR hne
      refine wl_st 31 (.tmp 9) (.tmp 66) (kf54 11) 0 (nvar (Z)) _ (nvli (Z)) Q53 rfl rfl rfl rfl rfl sz24 rfl rfl rfl ?_
      intro w55 hS Qn
      replace Q53 := Qn
      clear Qn
      replace Q1 := hS.other _ _ ne_k1_k53 Q1
      replace Q21 := hS.other _ _ ne_k21_k53 Q21
      replace Q51 := hS.other _ _ ne_k51_k53 Q51
      replace Q52 := hS.other _ _ ne_k52_k53 Q52
      replace d9 := fun k h => Nat.lt_of_lt_of_le (d9 k h) (Nat.le_of_eq hS.size.symm)
      replace M := hS.mo _ N_k53 M
      clear hS
      refine wl_m (.tmp 67) (.bool false) ?_
      refine w_nil (xn_then (w_seq (w_seq (w_reg ?_))))
      refine wl_l 31 (.tmp 7) (pt (kf51 6) 0) (nv (pvk s k * 10 / MM)) (run_row Q51 31 0 4 (nvli (pvk s k * 10 / MM)) rfl Tryd.underlying31 rfl sz24) ?_
      refine wl_build 31 [] [] (.agg #[.int .u64 0, .int .u64 0, .int .u64 0, .int .u64 0]) rfl rfl (by kernel_rfl) rfl ?_
      refine wl_b .neq 31 (.tmp 68) (.tmp 69) (nv (pvk s k * 10 / MM)) (.agg #[.int .u64 0, .int .u64 0, .int .u64 0, .int .u64 0]) (.bool false) (nen_run (r := true) hz _ _ _) ?_
      refine wl_m (.tmp 70) (.bool false) ?_
      refine wl_m (.tmp 10) (.bool false) ?_
      refine wl_pick (.tmp 71) (.const (.bool true)) (.tmp 72) false (.bool false) (fun _ => rfl) rfl rfl rfl ?_
      refine w_nil (xn_then (w_condF rfl (w_skip (xn_then (w_reg ?_)))))
      refine wl_l 31 (.tmp 9) (pt (kf54 11) 0) (nv (Z)) (run_row Q53 31 0 4 (nvli (Z)) rfl Tryd.underlying31 rfl sz24) ?_
      refine wl_st 31 (.tmp 5) (.tmp 75) k21 0 (nvar (Z)) (nvli (pvk s k)) (nvli (Z)) Q21 rfl rfl e5 rfl rfl sz24 rfl rfl rfl ?_
      intro w56 hS Qn
      replace Q21 := Qn
      clear Qn
      replace Q1 := hS.other _ _ ne_k1_k21 Q1
      replace Q51 := hS.other _ _ ne_k21_k51.symm Q51
      replace Q52 := hS.other _ _ ne_k21_k52.symm Q52
      replace Q53 := hS.other _ _ ne_k21_k53.symm Q53
      replace d9 := fun k h => Nat.lt_of_lt_of_le (d9 k h) (Nat.le_of_eq hS.size.symm)
      replace M := hS.mo _ N_k21 M
      clear hS
      refine w_nil (xn_blk (xn_then (w_reg ?_)))
      refine wl_mv (.tmp 6) (.int .i64 ((k : Int))) (fun _ => rfl) e6 rfl ?_
      refine wl_b .add 3 (.tmp 49) (.const (.int .i64 (1))) (.int .i64 ((k : Int))) (.int .i64 (1)) (.int .i64 (((k + 1 : Nat) : Int))) (add1_run (by unfold maxLen at hs; omega) _ _ _) ?_
      refine wl_m (.tmp 50) (.int .i64 (((k + 1 : Nat) : Int))) ?_
      refine w_nil ?_
      exact xn_loop (s.size - (k + 1)) (by omega) ⟨k + 1, by omega, e0, rfl, e2, e5, Q1, by rw [pvk_succ s k hlt, ← hZ]; exact Q21, by rw [pvk_succ s k hlt]; exact hsm, M, (fun k h => by have e : pt (kf51 6) 0 = pt k 0 := h; rw [← pt_inj e]; exact Q51.lt), (fun k h => by have e : pt (kf51 7) 0 = pt k 0 := h; rw [← pt_inj e]; exact Q52.lt), (fun k h h2 => by have e : pt (kf51 6) 0 = pt k 0 := h; have e2 : pt (kf51 7) 0 = pt k 0 := h2; exact ne_k51_k52 (pt_inj (e.trans e2.symm))), (fun k h => by have e : pt (kf54 11) 0 = pt k 0 := h; rw [← pt_inj e]; exact Q53.lt)⟩
     ·obtain ⟨Z, hsum⟩ := rsum_ov (pvk s k * 10) ((s[k].toNat : Int) - 48) (by omega) (by omega) (by omega) hhi hsm
      have hbig : ¬ pvk s k * 10 + ((s[k].toNat : Int) - 48) < MM := hsm
      refine w_seq (w_seq (w_reg ?_))
      refine wl_mv (.tmp 6) (.int .i64 ((k : Int))) (fun _ => rfl) e6 rfl ?_
      refine wl_mv (.tmp 0) (.string s) (fun _ => rfl) e0 rfl ?_
      refine wl_val (.int .i64 ((s.size : Int))) (len_run _ _ s rfl _ _ _ _ _ _) rfl ?_
      refine wl_b .lss 3 (.tmp 45) (.tmp 47) (.int .i64 ((k : Int))) (.int .i64 ((s.size : Int))) (.bool true) (lt3_run hl _ _ _) ?_
      refine w_nil (xn_then (w_condT rfl (w_skip (xn_then (w_seq (w_block (w_seq ?_)))))))
      refine w_any 8 [.inl (nv (pvk s k)), .inl (nv (10)), .inl (.tuple #[nv (pvk s k * 10 / MM), nv (pvk s k * 10)]), .inl (.tuple #[nv (pvk s k * 10 / MM), nv (pvk s k * 10)]), .inl (nv (pvk s k * 10 / MM)), .inl (nv (pvk s k * 10)), .inr [.int .u64 0, .int .u64 0, .int .u64 0, .int .u64 0], .inr [.int .u64 0, .int .u64 0, .int .u64 0, .int .u64 0]] [5] (by kernel_rfl) (by kernel_rfl) (by kernel_rfl) (by kernel_rfl) rfl (by kernel_rfl) (by kernel_rfl) (late_cons ⟨_, _, rfl, rfl, fun _ _ _ _ h => h, fun f hd => ⟨rfl, la_un (fun v => Instr.extract v 1) (.tmp 51) (.tuple #[nv (pvk s k * 10 / MM), nv (pvk s k * 10)]) (nv (pvk s k * 10)) (fun _ => rfl) (hd 3 rfl _ rfl) (fun w => by kernel_rfl)⟩⟩ late_nil) ?_ ?_ ?_
      ·exact Ds.two 6 7 (fun q hq => by rcases q with _ | _ | _ | _ | _ | _ | _ | _ | q <;> first | (left; rfl) | (right; rfl) | cases hq) d7 d8 d78
      ·refine ea_cons ?_ (ea_cons ?_ (ea_cons ?_ (ea_cons ?_ (ea_cons ?_ (ea_cons ?_ (ea_cons ?_ (ea_cons ?_ (ea_nil))))))))
       ·exact og_eq _ rfl (fun f wf hq hd K hK => have Q21 := Q21.mo hq; go_run rfl (wo_load 31 (.tmp 5) (pt k21 0) (nv (pvk s k)) rfl e5 (run_row Q21 31 0 4 (nvli (pvk s k)) rfl Tryd.underlying31 rfl sz24) (hK _ (Mo.refl _))))
       ·exact og_eq _ rfl (fun f wf hq hd K hK => go_run rfl (wo_call 64 [(.const (.int .u64 (10)))] _ [.int .u64 (10)] (nv (10)) rfl rfl (fun _ _ => by kernel_rfl) (from69_n _) hK))
       ·exact og_eq _ rfl (fun f wf hq hd K hK => go_run rfl (wo_call 63 [(.tmp 52), (.tmp 53)] _ [nv (pvk s k), nv (10)] (.tuple #[nv (pvk s k * 10 / MM), nv (pvk s k * 10)]) rfl (li2 (hd 0 rfl) (hd 1 rfl)) (fun _ _ => by kernel_rfl) (rmul_n (pvk s k) 10 _ hv0 hv (by decide) (by decide)) hK))
       ·exact og_eq _ rfl (fun f wf hq hd K hK => go_run rfl (wo_mv (.tmp 54) (.tuple #[nv (pvk s k * 10 / MM), nv (pvk s k * 10)]) (fun _ => rfl) (hd 2 rfl) (hK _ (Mo.refl _))))
       ·exact og_eq _ rfl (fun f wf hq hd K hK => go_run rfl (wo_un (fun v => Instr.extract v 0) (.tmp 51) (.tuple #[nv (pvk s k * 10 / MM), nv (pvk s k * 10)]) (nv (pvk s k * 10 / MM)) (fun _ => rfl) (hd 3 rfl) (by kernel_rfl) (hK _ (Mo.refl _))))
       ·exact og_eq _ rfl (fun f wf hq hd K hK => go_run rfl (wo_un (fun v => Instr.extract v 1) (.tmp 51) (.tuple #[nv (pvk s k * 10 / MM), nv (pvk s k * 10)]) (nv (pvk s k * 10)) (fun _ => rfl) (hd 3 rfl) (by kernel_rfl) (hK _ (Mo.refl _))))
       ·exact og_new [.int .u64 0, .int .u64 0, .int .u64 0, .int .u64 0] rfl (fun f wf hq hd K hK => go_run rfl (wo_alloc 31 #[.int .u64 0, .int .u64 0, .int .u64 0, .int .u64 0] rfl (fun _ => by kernel_rfl) hK))
       ·exact og_new [.int .u64 0, .int .u64 0, .int .u64 0, .int .u64 0] rfl (fun f wf hq hd K hK => go_run rfl (wo_alloc 31 #[.int .u64 0, .int .u64 0, .int .u64 0, .int .u64 0] rfl (fun _ => by kernel_rfl) hK))
      intro kf51 w51 hq hR hne
      obtain ⟨N_k51, Q51⟩ := hR 6 _ rfl rfl
      obtain ⟨N_k52, Q52⟩ := hR 7 _ rfl rfl
      have ne_k1_k51 : k1 ≠ (kf51 6) := by have := Q1.lt; omega
      have ne_k21_k51 : k21 ≠ (kf51 6) := by have := Q21.lt; omega
      have ne_k51_k52 := hne 6 7 rfl rfl rfl rfl (by decide)
      replace N_k51 := Nat.le_trans M.size N_k51
      have ne_k1_k52 : k1 ≠ (kf51 7) := by have := Q1.lt; omega
      have ne_k21_k52 : k21 ≠ (kf51 7) := by have := Q21.lt; omega
      replace N_k52 := Nat.le_trans M.size N_k52
      replace d9 := fun k h => Nat.lt_of_lt_of_le (d9 k h) hq.size
      replace Q1 := Q1.mo hq
      replace Q21 := Q21.mo hq
      replace M := M.trans hq
      clear hq hR hne
      refine wl_st 31 (.tmp 7) (.tmp 55) (kf51 6) 0 (nvar (pvk s k * 10 / MM)) _ (nvli (pvk s k * 10 / MM)) Q51 rfl rfl rfl rfl rfl sz24 rfl rfl rfl ?_
      intro w52 hS Qn
      replace Q51 := Qn
      clear Qn
      replace Q1 := hS.other _ _ ne_k1_k51 Q1
      replace Q21 := hS.other _ _ ne_k21_k51 Q21
      replace Q52 := hS.other _ _ ne_k51_k52.symm Q52
      replace d9 := fun k h => Nat.lt_of_lt_of_le (d9 k h) (Nat.le_of_eq hS.size.symm)
      replace M := hS.mo _ N_k51 M
      clear hS
      refine wl_st 31 (.tmp 8) (.tmp 56) (kf51 7) 0 (nvar (pvk s k * 10)) _ (nvli (pvk s k * 10)) Q52 rfl rfl rfl rfl rfl sz24 rfl rfl rfl ?_
      intro w53 hS Qn
      replace Q52 := Qn
      clear Qn
      replace Q1 := hS.other _ _ ne_k1_k52 Q1
      replace Q21 := hS.other _ _ ne_k21_k52 Q21
      replace Q51 := hS.other _ _ ne_k51_k52 Q51
      replace d9 := fun k h => Nat.lt_of_lt_of_le (d9 k h) (Nat.le_of_eq hS.size.symm)
      replace M := hS.mo _ N_k52 M
      clear hS
      refine w_nil (xn_then (w_seq ?_))
      refine w_any 12 [.inl (nv (pvk s k * 10)), .inl (.string s), .inl (.int .i64 ((k : Int))), .inl (.int .u8 (s[k].toNat : Int)), .inl (.int .u8 ((s[k].toNat : Int) - 48)), .inl (.int .u64 ((s[k].toNat : Int) - 48)), .inl (nv (((s[k].toNat : Int) - 48))), .inl (.tuple #[nv (Z), .bool true]), .inl (.tuple #[nv (Z), .bool true]), .inl (nv (Z)), .inl (.bool true), .inr [.int .u64 0, .int .u64 0, .int .u64 0, .int .u64 0]] [10] (by kernel_rfl) (by kernel_rfl) (by kernel_rfl) (by kernel_rfl) rfl (by kernel_rfl) (by kernel_rfl) (late_cons ⟨_, _, rfl, rfl, fun _ _ _ _ h => h, fun f hd => ⟨rfl, la_un (fun v => Instr.extract v 1) (.tmp 57) (.tuple #[nv (Z), .bool true]) (.bool true) (fun _ => rfl) (hd 8 rfl _ rfl) (fun w => by kernel_rfl)⟩⟩ late_nil) ?_ ?_ ?_
      ·exact Ds.one 11 (fun q hq => by rcases q with _ | _ | _ | _ | _ | _ | _ | _ | _ | _ | _ | _ | q <;> first | rfl | cases hq) d9
      ·refine ea_cons ?_ (ea_cons ?_ (ea_cons ?_ (ea_cons ?_ (ea_cons ?_ (ea_cons ?_ (ea_cons ?_ (ea_cons ?_ (ea_cons ?_ (ea_cons ?_ (ea_cons ?_ (ea_cons ?_ (ea_nil))))))))))))
       ·exact og_eq _ rfl (fun f wf hq hd K hK => have Q52 := Q52.mo hq; go_run rfl (wo_load 31 (.tmp 8) (pt (kf51 7) 0) (nv (pvk s k * 10)) rfl rfl (run_row Q52 31 0 4 (nvli (pvk s k * 10)) rfl Tryd.underlying31 rfl sz24) (hK _ (Mo.refl _))))
       ·exact og_eq _ rfl (fun f wf hq hd K hK => go_run rfl (wo_mv (.tmp 0) (.string s) (fun _ => rfl) e0 (hK _ (Mo.refl _))))
       ·exact og_eq _ rfl (fun f wf hq hd K hK => go_run rfl (wo_mv (.tmp 6) (.int .i64 ((k : Int))) (fun _ => rfl) e6 (hK _ (Mo.refl _))))
       ·exact og_eq _ rfl (fun f wf hq hd K hK => go_run rfl (wo_bin (fun x y => Instr.index 9 x y) (.tmp 59) (.tmp 60) (.string s) (.int .i64 ((k : Int))) (.int .u8 (s[k].toNat : Int)) (fun _ => rfl) (hd 1 rfl) (hd 2 rfl) (idx_s s k hlt _) (hK _ (Mo.refl _))))
       ·exact og_eq _ rfl (fun f wf hq hd K hK => go_run rfl (wo_bin (fun x y => do eqGuard .sub 5 (.tmp 61) (.const (.int .u8 (48))) x y; binOp .sub 5 x y) (.tmp 61) (.const (.int .u8 (48))) (.int .u8 (s[k].toNat : Int)) (.int .u8 (48)) (.int .u8 ((s[k].toNat : Int) - 48)) (fun _ => rfl) (hd 3 rfl) rfl (subu8_run hc.1 hc.2 _ _ _) (hK _ (Mo.refl _))))
       ·exact og_eq _ rfl (fun f wf hq hd K hK => go_run rfl (wo_un (fun v => convert 5 29 v) (.tmp 62) (.int .u8 ((s[k].toNat : Int) - 48)) (.int .u64 ((s[k].toNat : Int) - 48)) (fun _ => rfl) (hd 4 rfl) (cv8_run (by omega) (by omega) _) (hK _ (Mo.refl _))))
       ·exact og_eq _ rfl (fun f wf hq hd K hK => go_run rfl (wo_call 64 [(.tmp 63)] _ [.int .u64 ((s[k].toNat : Int) - 48)] (nv (((s[k].toNat : Int) - 48))) rfl (li1 (hd 5 rfl)) (fun _ _ => by kernel_rfl) (from34_any ((s[k].toNat : Int) - 48) _ ⟨by omega, by omega⟩) hK))
       ·exact og_eq _ rfl (fun f wf hq hd K hK => go_run rfl (wo_call 65 [(.tmp 58), (.tmp 64)] _ [nv (pvk s k * 10), nv (((s[k].toNat : Int) - 48))] (.tuple #[nv (Z), .bool true]) rfl (li2 (hd 0 rfl) (hd 6 rfl)) (fun _ _ => by kernel_rfl) (hsum _) hK))
       ·exact og_eq _ rfl (fun f wf hq hd K hK => go_run rfl (wo_mv (.tmp 65) (.tuple #[nv (Z), .bool true]) (fun _ => rfl) (hd 7 rfl) (hK _ (Mo.refl _))))
       ·exact og_eq _ rfl (fun f wf hq hd K hK => go_run rfl (wo_un (fun v => Instr.extract v 0) (.tmp 57) (.tuple #[nv (Z), .bool true]) (nv (Z)) (fun _ => rfl) (hd 8 rfl) (by kernel_rfl) (hK _ (Mo.refl _))))
       ·exact og_eq _ rfl (fun f wf hq hd K hK => go_run rfl (wo_un (fun v => Instr.extract v 1) (.tmp 57) (.tuple #[nv (Z), .bool true]) (.bool true) (fun _ => rfl) (hd 8 rfl) (by kernel_rfl) (hK _ (Mo.refl _))))
       ·exact og_new [.int .u64 0, .int .u64 0, .int .u64 0, .int .u64 0] rfl (fun f wf hq hd K hK => go_run rfl (wo_alloc 31 #[.int .u64 0, .int .u64 0, .int .u64 0, .int .u64 0] rfl (fun _ => by kernel_rfl) hK))
      intro kf54 w54 hq hR hne
      obtain ⟨N_k53, Q53⟩ := hR 11 _ rfl rfl
      have ne_k1_k53 : k1 ≠ (kf54 11) := by have := Q1.lt; omega
      have ne_k21_k53 : k21 ≠ (kf54 11) := by have := Q21.lt; omega
      have ne_k51_k53 : (kf51 6) ≠ (kf54 11) := by have := Q51.lt; omega
      have ne_k52_k53 : (kf51 7) ≠ (kf54 11) := by have := Q52.lt; omega
      replace N_k53 := Nat.le_trans M.size N_k53
      replace d9 := fun k h => Nat.lt_of_lt_of_le (d9 k h) hq.size
      replace Q1 := Q1.mo hq
      replace Q21 := Q21.mo hq
      replace Q51 := Q51.mo hq
      replace Q52 := Q52.mo hq
      replace M := M.trans hq
      clear hq hR hne
      refine wl_st 31 (.tmp 9) (.tmp 66) (kf54 11) 0 (nvar (Z)) _ (nvli (Z)) Q53 rfl rfl rfl rfl rfl sz24 rfl rfl rfl ?_
      intro w55 hS Qn
      replace Q53 := Qn
      clear Qn
      replace Q1 := hS.other _ _ ne_k1_k53 Q1
      replace Q21 := hS.other _ _ ne_k21_k53 Q21
      replace Q51 := hS.other _ _ ne_k51_k53 Q51
      replace Q52 := hS.other _ _ ne_k52_k53 Q52
      replace d9 := fun k h => Nat.lt_of_lt_of_le (d9 k h) (Nat.le_of_eq hS.size.symm)
      replace M := hS.mo _ N_k53 M
      clear hS
      refine wl_m (.tmp 67) (.bool true) ?_
      refine w_nil (xn_then (w_seq (w_seq (w_reg ?_))))
      refine wl_l 31 (.tmp 7) (pt (kf51 6) 0) (nv (pvk s k * 10 / MM)) (run_row Q51 31 0 4 (nvli (pvk s k * 10 / MM)) rfl Tryd.underlying31 rfl sz24) ?_
      refine wl_build 31 [] [] (.agg #[.int .u64 0, .int .u64 0, .int .u64 0, .int .u64 0]) rfl rfl (by kernel_rfl) rfl ?_
      refine wl_b .neq 31 (.tmp 68) (.tmp 69) (nv (pvk s k * 10 / MM)) (.agg #[.int .u64 0, .int .u64 0, .int .u64 0, .int .u64 0]) (.bool false) (nen_run (r := true) hz _ _ _) ?_
      refine wl_m (.tmp 70) (.bool false) ?_
      refine wl_m (.tmp 10) (.bool true) ?_
      refine wl_pick (.tmp 71) (.const (.bool true)) (.tmp 72) false (.bool true) (fun _ => rfl) rfl rfl rfl ?_
      refine w_nil (xn_then (w_condT rfl (w_seq (w_reg ?_))))
      refine wl_build 31 [] [] (.agg #[.int .u64 0, .int .u64 0, .int .u64 0, .int .u64 0]) rfl rfl (by kernel_rfl) rfl ?_
      refine wl_st 31 (.tmp 2) (.tmp 74) k1 0 #[.int .u64 0, .int .u64 0, .int .u64 0, .int .u64 0] _ [.int .u64 0, .int .u64 0, .int .u64 0, .int .u64 0] Q1 rfl rfl e2 rfl rfl sz24 rfl rfl rfl ?_
      intro w56 hS Qn
      replace Q1 := Qn
      clear Qn
      replace Q21 := hS.other _ _ ne_k1_k21.symm Q21
      replace Q51 := hS.other _ _ ne_k1_k51.symm Q51
      replace Q52 := hS.other _ _ ne_k1_k52.symm Q52
      replace Q53 := hS.other _ _ ne_k1_k53.symm Q53
      replace d9 := fun k h => Nat.lt_of_lt_of_le (d9 k h) (Nat.le_of_eq hS.size.symm)
      replace M := hS.mo _ N_k1 M
      clear hS
      refine wl_m (.const (.int .i64 (7))) (.int .i64 (7)) ?_
      refine w_nil (xn_then (w_ret (xr_then (xr_blk (xr_then (xr_then (xr_blk (xr_then ?_))))))))
      exact w_ret2 _ _ (.agg #[.int .u64 0, .int .u64 0, .int .u64 0, .int .u64 0]) (.int .i64 (7)) rfl ⟨k1, e2, (run_row Q1 31 0 4 _ rfl Tryd.underlying31 rfl sz24)⟩ rfl ⟨by rw [resP_over hT hlt hbig], M⟩
    ·have hz := hi1z (show MM ≤ pvk s k * 10 by omega) (show pvk s k * 10 < MM * MM by unfold MM at *; omega)
     obtain ⟨Z, o, hsum⟩ := rsum_any (pvk s k * 10) ((s[k].toNat : Int) - 48)
     have hbig : ¬ pvk s k * 10 + ((s[k].toNat : Int) - 48) < MM := by omega
     refine w_seq (w_seq (w_reg ?_))
     refine wl_mv (.tmp 6) (.int .i64 ((k : Int))) (fun _ => rfl) e6 rfl ?_
     refine wl_mv (.tmp 0) (.string s) (fun _ => rfl) e0 rfl ?_
     refine wl_val (.int .i64 ((s.size : Int))) (len_run _ _ s rfl _ _ _ _ _ _) rfl ?_
     refine wl_b .lss 3 (.tmp 45) (.tmp 47) (.int .i64 ((k : Int))) (.int .i64 ((s.size : Int))) (.bool true) (lt3_run hl _ _ _) ?_
     refine w_nil (xn_then (w_condT rfl (w_skip (xn_then (w_seq (w_block (w_seq ?_)))))))
     refine w_any 8 [.inl (nv (pvk s k)), .inl (nv (10)), .inl (.tuple #[nv (pvk s k * 10 / MM), nv (pvk s k * 10)]), .inl (.tuple #[nv (pvk s k * 10 / MM), nv (pvk s k * 10)]), .inl (nv (pvk s k * 10 / MM)), .inl (nv (pvk s k * 10)), .inr [.int .u64 0, .int .u64 0, .int .u64 0, .int .u64 0], .inr [.int .u64 0, .int .u64 0, .int .u64 0, .int .u64 0]] [5] (by kernel_rfl) (by kernel_rfl) (by kernel_rfl) (by kernel_rfl) rfl (by kernel_rfl) (by kernel_rfl) (late_cons ⟨_, _, rfl, rfl, fun _ _ _ _ h => h, fun f hd => ⟨rfl, la_un (fun v => Instr.extract v 1) (.tmp 51) (.tuple #[nv (pvk s k * 10 / MM), nv (pvk s k * 10)]) (nv (pvk s k * 10)) (fun _ => rfl) (hd 3 rfl _ rfl) (fun w => by kernel_rfl)⟩⟩ late_nil) ?_ ?_ ?_
     ·exact Ds.two 6 7 (fun q hq => by rcases q with _ | _ | _ | _ | _ | _ | _ | _ | q <;> first | (left; rfl) | (right; rfl) | cases hq) d7 d8 d78
     ·refine ea_cons ?_ (ea_cons ?_ (ea_cons ?_ (ea_cons ?_ (ea_cons ?_ (ea_cons ?_ (ea_cons ?_ (ea_cons ?_ (ea_nil))))))))
      ·exact og_eq _ rfl (fun f wf hq hd K hK => have Q21 := Q21.mo hq; go_run rfl (wo_load 31 (.tmp 5) (pt k21 0) (nv (pvk s k)) rfl e5 (run_row Q21 31 0 4 (nvli (pvk s k)) rfl Tryd.underlying31 rfl sz24) (hK _ (Mo.refl _))))
      ·exact og_eq _ rfl (fun f wf hq hd K hK => go_run rfl (wo_call 64 [(.const (.int .u64 (10)))] _ [.int .u64 (10)] (nv (10)) rfl rfl (fun _ _ => by kernel_rfl) (from69_n _) hK))
      ·exact og_eq _ rfl (fun f wf hq hd K hK => go_run rfl (wo_call 63 [(.tmp 52), (.tmp 53)] _ [nv (pvk s k), nv (10)] (.tuple #[nv (pvk s k * 10 / MM), nv (pvk s k * 10)]) rfl (li2 (hd 0 rfl) (hd 1 rfl)) (fun _ _ => by kernel_rfl) (rmul_n (pvk s k) 10 _ hv0 hv (by decide) (by decide)) hK))
      ·exact og_eq _ rfl (fun f wf hq hd K hK => go_run rfl (wo_mv (.tmp 54) (.tuple #[nv (pvk s k * 10 / MM), nv (pvk s k * 10)]) (fun _ => rfl) (hd 2 rfl) (hK _ (Mo.refl _))))
      ·exact og_eq _ rfl (fun f wf hq hd K hK => go_run rfl (wo_un (fun v => Instr.extract v 0) (.tmp 51) (.tuple #[nv (pvk s k * 10 / MM), nv (pvk s k * 10)]) (nv (pvk s k * 10 / MM)) (fun _ => rfl) (hd 3 rfl) (by kernel_rfl) (hK _ (Mo.refl _))))
      ·exact og_eq _ rfl (fun f wf hq hd K hK => go_run rfl (wo_un (fun v => Instr.extract v 1) (.tmp 51) (.tuple #[nv (pvk s k * 10 / MM), nv (pvk s k * 10)]) (nv (pvk s k * 10)) (fun _ => rfl) (hd 3 rfl) (by kernel_rfl) (hK _ (Mo.refl _))))
      ·exact og_new [.int .u64 0, .int .u64 0, .int .u64 0, .int .u64 0] rfl (fun f wf hq hd K hK => go_run rfl (wo_alloc 31 #[.int .u64 0, .int .u64 0, .int .u64 0, .int .u64 0] rfl (fun _ => by kernel_rfl) hK))
      ·exact og_new [.int .u64 0, .int .u64 0, .int .u64 0, .int .u64 0] rfl (fun f wf hq hd K hK => go_run rfl (wo_alloc 31 #[.int .u64 0, .int .u64 0, .int .u64 0, .int .u64 0] rfl (fun _ => by kernel_rfl) hK))
     intro kf51 w51 hq hR hne
     obtain ⟨N_k51, Q51⟩ := hR 6 _ rfl rfl
     obtain ⟨N_k52, Q52⟩ := hR 7 _ rfl rfl
     have ne_k1_k51 : k1 ≠ (kf51 6) := by have := Q1.lt; omega
     have ne_k21_k51 : k21 ≠ (kf51 6) := by have := Q21.lt; omega
     have ne_k51_k52 := hne 6 7 rfl rfl rfl rfl (by decide)
     replace N_k51 := Nat.le_trans M.size N_k51
     have ne_k1_k52 : k1 ≠ (kf51 7) := by have := Q1.lt; omega
     have ne_k21_k52 : k21 ≠ (kf51 7) := by have := Q21.lt; omega
     replace N_k52 := Nat.le_trans M.size N_k52
     replace d9 := fun k h => Nat.lt_of_lt_of_le (d9 k h) hq.size
     replace Q1 := Q1.mo hq
     replace Q21 := Q21.mo hq
     replace M := M.trans hq
     clear hq hR hne
     refine wl_st 31 (.tmp 7) (.tmp 55) (kf51 6) 0 (nvar (pvk s k * 10 / MM)) _ (nvli (pvk s k * 10 / MM)) Q51 rfl rfl rfl rfl rfl sz24 rfl rfl rfl ?_
     intro w52 hS Qn
     replace Q51 := Qn
     clear Qn
     replace Q1 := hS.other _ _ ne_k1_k51 Q1
     replace Q21 := hS.other _ _ ne_k21_k51 Q21
     replace Q52 := hS.other _ _ ne_k51_k52.symm Q52
     replace d9 := fun k h => Nat.lt_of_lt_of_le (d9 k h) (Nat.le_of_eq hS.size.symm)
     replace M := hS.mo _ N_k51 M
     clear hS
     refine wl_st 31 (.tmp 8) (.tmp 56) (kf51 7) 0 (nvar (pvk s k * 10)) _ (nvli (pvk s k * 10)) Q52 rfl rfl rfl rfl rfl sz24 rfl rfl rfl ?_
     intro w53 hS Qn
     replace Q52 := Qn
     clear Qn
     replace Q1 := hS.other _ _ ne_k1_k52 Q1
     replace Q21 := hS.other _ _ ne_k21_k52 Q21
     replace Q51 := hS.other _ _ ne_k51_k52 Q51
     replace d9 := fun k h => Nat.lt_of_lt_of_le (d9 k h) (Nat.le_of_eq hS.size.symm)
     replace M := hS.mo _ N_k52 M
     clear hS
     refine w_nil (xn_then (w_seq ?_))
     refine w_any 12 [.inl (nv (pvk s k * 10)), .inl (.string s), .inl (.int .i64 ((k : Int))), .inl (.int .u8 (s[k].toNat : Int)), .inl (.int .u8 ((s[k].toNat : Int) - 48)), .inl (.int .u64 ((s[k].toNat : Int) - 48)), .inl (nv (((s[k].toNat : Int) - 48))), .inl (.tuple #[nv (Z), .bool (o)]), .inl (.tuple #[nv (Z), .bool (o)]), .inl (nv (Z)), .inl (.bool (o)), .inr [.int .u64 0, .int .u64 0, .int .u64 0, .int .u64 0]] [10] (by kernel_rfl) (by kernel_rfl) (by kernel_rfl) (by kernel_rfl) rfl (by kernel_rfl) (by kernel_rfl) (late_cons ⟨_, _, rfl, rfl, fun _ _ _ _ h => h, fun f hd => ⟨rfl, la_un (fun v => Instr.extract v 1) (.tmp 57) (.tuple #[nv (Z), .bool (o)]) (.bool (o)) (fun _ => rfl) (hd 8 rfl _ rfl) (fun w => by kernel_rfl)⟩⟩ late_nil) ?_ ?_ ?_
     ·exact Ds.one 11 (fun q hq => by rcases q with _ | _ | _ | _ | _ | _ | _ | _ | _ | _ | _ | _ | q <;> first | rfl | cases hq) d9
     ·refine ea_cons ?_ (ea_cons ?_ (ea_cons ?_ (ea_cons ?_ (ea_cons ?_ (ea_cons ?_ (ea_cons ?_ (ea_cons ?_ (ea_cons ?_ (ea_cons ?_ (ea_cons ?_ (ea_cons ?_ (ea_nil))))))))))))
      ·exact og_eq _ rfl (fun f wf hq hd K hK => have Q52 := Q52.mo hq; go_run rfl (wo_load 31 (.tmp 8) (pt (kf51 7) 0) (nv (pvk s k * 10)) rfl rfl (run_row Q52 31 0 4 (nvli (pvk s k * 10)) rfl Tryd.underlying31 rfl sz24) (hK _ (Mo.refl _))))
      ·exact og_eq _ rfl (fun f wf hq hd K hK => go_run rfl (wo_mv (.tmp 0) (.string s) (fun _ => rfl) e0 (hK _ (Mo.refl _))))
      ·exact og_eq _ rfl (fun f wf hq hd K hK => go_run rfl (wo_mv (.tmp 6) (.int .i64 ((k : Int))) (fun _ => rfl) e6 (hK _ (Mo.refl _))))
      ·exact og_eq _ rfl (fun f wf hq hd K hK => go_run rfl (wo_bin (fun x y => Instr.index 9 x y) (.tmp 59) (.tmp 60) (.string s) (.int .i64 ((k : Int))) (.int .u8 (s[k].toNat : Int)) (fun _ => rfl) (hd 1 rfl) (hd 2 rfl) (idx_s s k hlt _) (hK _ (Mo.refl _))))
      ·exact og_eq _ rfl (fun f wf hq hd K hK => go_run rfl (wo_bin (fun x y => do eqGuard .sub 5 (.tmp 61) (.const (.int .u8 (48))) x y; binOp .sub 5 x y) (.tmp 61) (.const (.int .u8 (48))) (.int .u8 (s[k].toNat : Int)) (.int .u8 (48)) (.int .u8 ((s[k].toNat : Int) - 48)) (fun _ => rfl) (hd 3 rfl) rfl (subu8_run hc.1 hc.2 _ _ _) (hK _ (Mo.refl _))))
      ·exact og_eq _ rfl (fun f wf hq hd K hK => go_run rfl (wo_un (fun v => convert 5 29 v) (.tmp 62) (.int .u8 ((s[k].toNat : Int) - 48)) (.int .u64 ((s[k].toNat : Int) - 48)) (fun _ => rfl) (hd 4 rfl) (cv8_run (by omega) (by omega) _) (hK _ (Mo.refl _))))
      ·exact og_eq _ rfl (fun f wf hq hd K hK => go_run rfl (wo_call 64 [(.tmp 63)] _ [.int .u64 ((s[k].toNat : Int) - 48)] (nv (((s[k].toNat : Int) - 48))) rfl (li1 (hd 5 rfl)) (fun _ _ => by kernel_rfl) (from34_any ((s[k].toNat : Int) - 48) _ ⟨by omega, by omega⟩) hK))
      ·exact og_eq _ rfl (fun f wf hq hd K hK => go_run rfl (wo_call 65 [(.tmp 58), (.tmp 64)] _ [nv (pvk s k * 10), nv (((s[k].toNat : Int) - 48))] (.tuple #[nv (Z), .bool (o)]) rfl (li2 (hd 0 rfl) (hd 6 rfl)) (fun _ _ => by kernel_rfl) (hsum _) hK))
      ·exact og_eq _ rfl (fun f wf hq hd K hK => go_run rfl (wo_mv (.tmp 65) (.tuple #[nv (Z), .bool (o)]) (fun _ => rfl) (hd 7 rfl) (hK _ (Mo.refl _))))
      ·exact og_eq _ rfl (fun f wf hq hd K hK => go_run rfl (wo_un (fun v => Instr.extract v 0) (.tmp 57) (.tuple #[nv (Z), .bool (o)]) (nv (Z)) (fun _ => rfl) (hd 8 rfl) (by kernel_rfl) (hK _ (Mo.refl _))))
      ·exact og_eq _ rfl (fun f wf hq hd K hK => go_run rfl (wo_un (fun v => Instr.extract v 1) (.tmp 57) (.tuple #[nv (Z), .bool (o)]) (.bool (o)) (fun _ => rfl) (hd 8 rfl) (by kernel_rfl) (hK _ (Mo.refl _))))
      ·exact og_new [.int .u64 0, .int .u64 0, .int .u64 0, .int .u64 0] rfl (fun f wf hq hd K hK => go_run rfl (wo_alloc 31 #[.int .u64 0, .int .u64 0, .int .u64 0, .int .u64 0] rfl (fun _ => by kernel_rfl) hK))
     intro kf54 w54 hq hR hne
     obtain ⟨N_k53, Q53⟩ := hR 11 _ rfl rfl
     have ne_k1_k53 : k1 ≠ (kf54 11) := by have := Q1.lt; omega
     have ne_k21_k53 : k21 ≠ (kf54 11) := by have := Q21.lt; omega
     have ne_k51_k53 : (kf51 6) ≠ (kf54 11) := by have := Q51.lt; omega
     have ne_k52_k53 : (kf51 7) ≠ (kf54 11) := by have := Q52.lt; omega
     replace N_k53 := Nat.le_trans M.size N_k53
     replace d9 := fun k h => Nat.lt_of_lt_of_le (d9 k h) hq.size
     replace Q1 := Q1.mo hq
     replace Q21 := Q21.mo hq
     replace Q51 := Q51.mo hq
     replace Q52 := Q52.mo hq
     replace M := M.trans hq
     clear hq hR hne
     refine wl_st 31 (.tmp 9) (.tmp 66) (kf54 11) 0 (nvar (Z)) _ (nvli (Z)) Q53 rfl rfl rfl rfl rfl sz24 rfl rfl rfl ?_
     intro w55 hS Qn
     replace Q53 := Qn
     clear Qn
     replace Q1 := hS.other _ _ ne_k1_k53 Q1
     replace Q21 := hS.other _ _ ne_k21_k53 Q21
     replace Q51 := hS.other _ _ ne_k51_k53 Q51
     replace Q52 := hS.other _ _ ne_k52_k53 Q52
     replace d9 := fun k h => Nat.lt_of_lt_of_le (d9 k h) (Nat.le_of_eq hS.size.symm)
     replace M := hS.mo _ N_k53 M
     clear hS
     refine wl_m (.tmp 67) (.bool (o)) ?_
     refine w_nil (xn_then (w_seq (w_seq (w_reg ?_))))
     refine wl_l 31 (.tmp 7) (pt (kf51 6) 0) (nv (pvk s k * 10 / MM)) (run_row Q51 31 0 4 (nvli (pvk s k * 10 / MM)) rfl Tryd.underlying31 rfl sz24) ?_
     refine wl_build 31 [] [] (.agg #[.int .u64 0, .int .u64 0, .int .u64 0, .int .u64 0]) rfl rfl (by kernel_rfl) rfl ?_
     refine wl_b .neq 31 (.tmp 68) (.tmp 69) (nv (pvk s k * 10 / MM)) (.agg #[.int .u64 0, .int .u64 0, .int .u64 0, .int .u64 0]) (.bool true) (nen_run (r := false) hz _ _ _) ?_
     refine wl_m (.tmp 70) (.bool true) ?_
     refine wl_skip rfl ?_
     refine wl_pick (.tmp 71) (.const (.bool true)) (.tmp 72) true (.bool true) (fun _ => rfl) rfl rfl rfl ?_
     refine w_nil (xn_then (w_condT rfl (w_seq (w_reg ?_))))
     refine wl_build 31 [] [] (.agg #[.int .u64 0, .int .u64 0, .int .u64 0, .int .u64 0]) rfl rfl (by kernel_rfl) rfl ?_
     refine wl_st 31 (.tmp 2) (.tmp 74) k1 0 #[.int .u64 0, .int .u64 0, .int .u64 0, .int .u64 0] _ [.int .u64 0, .int .u64 0, .int .u64 0, .int .u64 0] Q1 rfl rfl e2 rfl rfl sz24 rfl rfl rfl ?_
     intro w56 hS Qn
     replace Q1 := Qn
     clear Qn
     replace Q21 := hS.other _ _ ne_k1_k21.symm Q21
     replace Q51 := hS.other _ _ ne_k1_k51.symm Q51
     replace Q52 := hS.other _ _ ne_k1_k52.symm Q52
     replace Q53 := hS.other _ _ ne_k1_k53.symm Q53
     replace d9 := fun k h => Nat.lt_of_lt_of_le (d9 k h) (Nat.le_of_eq hS.size.symm)
     replace M := hS.mo _ N_k1 M
     clear hS
     refine wl_m (.const (.int .i64 (7))) (.int .i64 (7)) ?_
     refine w_nil (xn_then (w_ret (xr_then (xr_blk (xr_then (xr_then (xr_blk (xr_then ?_))))))))
     exact w_ret2 _ _ (.agg #[.int .u64 0, .int .u64 0, .int .u64 0, .int .u64 0]) (.int .i64 (7)) rfl ⟨k1, e2, (run_row Q1 31 0 4 _ rfl Tryd.underlying31 rfl sz24)⟩ rfl ⟨by rw [resP_over hT hlt hbig], M⟩
   ·have hl : decide ((k : Int) < (s.size : Int)) = false := decide_eq_false (by omega)
    refine w_seq (w_seq (w_reg ?_))
    refine wl_mv (.tmp 6) (.int .i64 ((k : Int))) (fun _ => rfl) e6 rfl ?_
    refine wl_mv (.tmp 0) (.string s) (fun _ => rfl) e0 rfl ?_
    refine wl_val (.int .i64 ((s.size : Int))) (len_run _ _ s rfl _ _ _ _ _ _) rfl ?_
    refine wl_b .lss 3 (.tmp 45) (.tmp 47) (.int .i64 ((k : Int))) (.int .i64 ((s.size : Int))) (.bool false) (lt3_run hl _ _ _) ?_
    refine w_nil (xn_then (w_condF rfl (w_exit (xx_then (xx_then (xx_blk (xn_then (w_seq (w_reg ?_)))))))))
    refine wl_load 31 (.tmp 5) (pt k21 0) (nv (pvk s k)) rfl e5 (run_row Q21 31 0 4 (nvli (pvk s k)) rfl Tryd.underlying31 rfl sz24) rfl ?_
    refine wl_st 31 (.tmp 2) (.tmp 76) k1 0 (nvar (pvk s k)) _ (nvli (pvk s k)) Q1 rfl rfl e2 rfl rfl sz24 rfl rfl rfl ?_
    intro w51 hS Qn
    replace Q1 := Qn
    clear Qn
    replace Q21 := hS.other _ _ ne_k1_k21.symm Q21
    replace d9 := fun k h => Nat.lt_of_lt_of_le (d9 k h) (Nat.le_of_eq hS.size.symm)
    replace M := hS.mo _ N_k1 M
    clear hS
    refine wl_m (.const (.int .i64 (0))) (.int .i64 (0)) ?_
    refine w_nil (xn_then (w_ret ?_))
    exact w_ret2 _ _ (nv (pvk s k)) (.int .i64 (0)) rfl ⟨k1, e2, (run_row Q1 31 0 4 (nvli (pvk s k)) rfl Tryd.underlying31 rfl sz24)⟩ rfl ⟨by rw [resP_ok (pvk_end hk hlt hv), ← pvk_eq hk hlt], M⟩
theorem rparse_n (s : ByteArray) (w : World) [Decidable (isT s)] (hs : s.size ≤ maxLen) : Calls Tryd.prog 51 #[.string s] w fun e w' => e = .returned (if isT s then resP s else ez 10) ∧ Mo w w' := by
 by_cases hp : 0 < s.size
 ·have h0 : s.toList.isEmpty = false := by rw [emp_iff]; exact decide_eq_false (by omega)
  cases hz : ((s[0].toNat : Int) == 48) with
  | false =>
   have hz' : (s[0].toNat : Int) ≠ 48 := by simpa using hz
   exact rparse_a s w hs h0 hp (fun h => hz' h.2) (fun _ => hz') hz
  | true =>
   cases h1 : decide ((s.size : Int) > 1) with
   | false =>
    have := of_decide_eq_false h1
    exact rparse_b s w hs h0 hp (fun h => by omega) (fun h => by omega) hz h1
   | true =>
    rw [if_neg (fun hT : isT s => by obtain ⟨_, h, _⟩ := hT; exact h ⟨by have := of_decide_eq_true h1; omega, by simpa using hz⟩)]
    exact rparse_lead s w h0 hp h1 hz
 ·rw [if_neg (fun hT : isT s => by obtain ⟨h, _⟩ := hT; exact hp h)]
  exact rparse_emp s w (by rw [emp_iff]; exact decide_eq_true (by omega))
end Go.Proofs.YthgknegocfhdbaaDoor

