/-
  A part of the proof.
-/
import Derived.Test.YthgknegocfhdbaaDoorC2
import Derived.Laws.StructEq
import Derived.Test.YthgknegocfhdbaaDoorC1
/-
 Texts: Parse, the program's and the document's, at every text.
-/
namespace Go.Proofs.YthgknegocfhdbaaDoor
open Go.RowKit
def pvk (s : ByteArray) (k : Nat) : Int := pv (s.data.toList.take k)
theorem pvk_z (s : ByteArray) : pvk s 0 = 0 := by unfold pvk pv; simp
theorem pvk_succ (s : ByteArray) (k : Nat) (h : k < s.size) : pvk s (k + 1) = pvk s k * 10 + ((s[k].toNat : Int) - 48) := by
 unfold pvk; rw [take_snoc' s k h, pv_snoc]
theorem pvk_nn {s : ByteArray} (hd : dgs s s.size) : ∀ k, k ≤ s.size → 0 ≤ pvk s k
 | 0, _ => by unfold pvk pv; simp
 | k + 1, h => by
  rw [pvk_succ s k (by omega)]
  have := pvk_nn hd k (by omega)
  have := hd k (by omega) (by omega)
  omega
theorem pvk_le {s : ByteArray} (hd : dgs s s.size) : ∀ d k, k + d = s.size → pvk s k ≤ pvk s s.size
 | 0, k, h => by rw [show k = s.size by omega]; exact Int.le_refl _
 | d + 1, k, h => by
  have a := pvk_le hd d (k + 1) (by omega)
  rw [pvk_succ s k (by omega)] at a
  have := pvk_nn hd k (by omega)
  have := hd k (by omega) (by omega)
  omega
abbrev ez (e : Int) : Value := .tuple #[.agg #[.int .u64 0, .int .u64 0, .int .u64 0, .int .u64 0], .int .i64 e]
def resP (s : ByteArray) : Value := if pvk s s.size < MM then .tuple #[nv (pvk s s.size), .int .i64 0] else ez 7
theorem resP_over {s : ByteArray} (hd : dgs s s.size) {k : Nat} (hlt : k < s.size) (h : ¬ pvk s k * 10 + ((s[k].toNat : Int) - 48) < MM) : resP s = ez 7 := by
 unfold resP
 rw [if_neg]
 have a := pvk_le hd (s.size - (k + 1)) (k + 1) (by omega)
 rw [pvk_succ s k hlt] at a
 omega
theorem resP_ok {s : ByteArray} (h : pvk s s.size < MM) : resP s = .tuple #[nv (pvk s s.size), .int .i64 0] := by unfold resP; rw [if_pos h]
theorem Ds.one {sp : List Sp} {f : Nat → Value} {w : World} (i : Nat) (h : ∀ q, spNew (spAt sp q) = true → q = i) (h1 : ∀ k, f i = pt k 0 → k < w.heap.size) : Ds sp f w := by
 refine ⟨fun q hq k hk => ?_, fun q r hq hr hne k hk hk2 => ?_⟩
 ·rw [h q hq] at hk; exact h1 k hk
 ·exact hne ((h q hq).trans (h r hr).symm)
theorem parse_no (s : ByteArray) (w : World) (hi : ∀ w, Calls Tryd.prog 71 #[.string s] w fun e w' => e = .returned (.bool false) ∧ Mo w w') : Calls Tryd.prog 61 #[.string s] w fun e w' => e = .returned (ez 10) ∧ Mo w w' := by
 refine w_enter 29 Tryd.func61 Tryd.ntmps61 rfl rfl ?_
 have M : Mo w w := Mo.refl _
 refine w_seq (w_reg ?_)
 refine wl_alloc 31 #[.int .u64 0, .int .u64 0, .int .u64 0, .int .u64 0] rfl (fun _ => by kernel_rfl) rfl ?_
 intro k1 w1 hk hz hq Q1
 have N_k1 : w.heap.size ≤ k1 := by have := M.size; omega
 replace M := M.trans hq
 clear hk hz hq
 refine wl_m (.const (.int .i64 (0))) (.int .i64 (0)) ?_
 refine w_nil (xn_then (w_seq (w_seq (w_reg ?_))))
 refine wl_m (.tmp 0) (.string s) ?_
 refine wl_call 71 [(.tmp 7)] _ [.string s] (.bool false) rfl rfl (fun _ _ => by kernel_rfl) (hi _) rfl ?_
 intro w2 hq
 replace Q1 := Q1.mo hq
 replace M := M.trans hq
 clear hq
 refine wl_un (fun v => Op.unary .not v) (.tmp 8) (.bool false) (.bool true) (fun _ => rfl) rfl (by kernel_rfl) rfl ?_
 refine w_nil (xn_then (w_condT rfl (w_seq (w_reg ?_))))
 refine wl_build 31 [] [] (.agg #[.int .u64 0, .int .u64 0, .int .u64 0, .int .u64 0]) rfl rfl (by kernel_rfl) rfl ?_
 refine wl_st 31 (.tmp 2) (.tmp 10) k1 0 #[.int .u64 0, .int .u64 0, .int .u64 0, .int .u64 0] _ [.int .u64 0, .int .u64 0, .int .u64 0, .int .u64 0] Q1 rfl rfl rfl rfl rfl sz24 rfl rfl rfl ?_
 intro w3 hS Qn
 replace Q1 := Qn
 clear Qn
 replace M := hS.mo _ N_k1 M
 clear hS
 refine wl_m (.const (.int .i64 (10))) (.int .i64 (10)) ?_
 refine w_nil (xn_then (w_ret (xr_then ?_)))
 exact w_ret2 _ _ (.agg #[.int .u64 0, .int .u64 0, .int .u64 0, .int .u64 0]) (.int .i64 (10)) rfl ⟨k1, rfl, (run_row Q1 31 0 4 _ rfl Tryd.underlying31 rfl sz24)⟩ rfl ⟨rfl, M⟩
theorem apd_c (s : ByteArray) (k : Nat) (w : World) {b : Bool} {h : k < s.size} (h0 : 0 ≤ pvk s k) (hv : pvk s k < MM) (h1 : 48 ≤ (s[k].toNat : Int)) (h2 : (s[k].toNat : Int) ≤ 57) (hf : decide (pvk s k * 10 + ((s[k].toNat : Int) - 48) < MM) = b) : Calls Tryd.prog 72 #[nv (pvk s k), .int .u8 (s[k].toNat : Int)] w fun e w' => e = .returned (.tuple #[nv (pvk s k * 10 + ((s[k].toNat : Int) - 48)), .bool b]) ∧ Mo w w' := by
 have := apd_any (pvk s k) (s[k].toNat : Int) w h0 hv h1 h2
 unfold fits at this
 rw [hf] at this
 exact this
theorem pvk_eq {s : ByteArray} {k m : Nat} (hk : k + m = s.size) (h : ¬ k < s.size) : pvk s k = pvk s s.size := by rw [show k = s.size by omega]
theorem pvk_end {s : ByteArray} {k m : Nat} (hk : k + m = s.size) (h : ¬ k < s.size) (hv : pvk s k < MM) : pvk s s.size < MM := by rw [← pvk_eq hk h]; exact hv
theorem parse_yes2 (s : ByteArray) (w : World) (hs : s.size ≤ maxLen) (hT : dgs s s.size) (hi : ∀ w, Calls Tryd.prog 71 #[.string s] w fun e w' => e = .returned (.bool true) ∧ Mo w w') : Calls Tryd.prog 61 #[.string s] w fun e w' => e = .returned (resP s) ∧ Mo w w' := by
 refine w_enter 29 Tryd.func61 Tryd.ntmps61 rfl rfl ?_
 have M : Mo w w := Mo.refl _
 refine w_seq (w_reg ?_)
 refine wl_alloc 31 #[.int .u64 0, .int .u64 0, .int .u64 0, .int .u64 0] rfl (fun _ => by kernel_rfl) rfl ?_
 intro k1 w1 hk hz hq Q1
 have N_k1 : w.heap.size ≤ k1 := by have := M.size; omega
 replace M := M.trans hq
 clear hk hz hq
 refine wl_m (.const (.int .i64 (0))) (.int .i64 (0)) ?_
 refine w_nil (xn_then (w_seq (w_seq (w_reg ?_))))
 refine wl_m (.tmp 0) (.string s) ?_
 refine wl_call 71 [(.tmp 7)] _ [.string s] (.bool true) rfl rfl (fun _ _ => by kernel_rfl) (hi _) rfl ?_
 intro w2 hq
 replace Q1 := Q1.mo hq
 replace M := M.trans hq
 clear hq
 refine wl_un (fun v => Op.unary .not v) (.tmp 8) (.bool true) (.bool false) (fun _ => rfl) rfl (by kernel_rfl) rfl ?_
 refine w_nil (xn_then (w_condF rfl (w_skip (xn_then (w_seq (w_reg ?_))))))
 refine wl_alloc 31 #[.int .u64 0, .int .u64 0, .int .u64 0, .int .u64 0] rfl (fun _ => by kernel_rfl) rfl ?_
 intro k2 w3 hk hz hq Q2
 have ne_k1_k2 : k1 ≠ k2 := by have := Q1.lt; omega
 have N_k2 : w.heap.size ≤ k2 := by have := M.size; omega
 replace Q1 := Q1.mo hq
 replace M := M.trans hq
 clear hk hz hq
 refine w_nil (xn_then (w_seq (w_seq (w_reg ?_))))
 refine wl_m (.tmp 0) (.string s) ?_
 refine wl_val (.int .i64 ((s.size : Int))) (len_run _ _ s rfl _ _ _ _ _ _) rfl ?_
 refine wl_m (.const (.int .i64 (0))) (.int .i64 (0)) ?_
 refine w_nil (xn_then (w_block ?_))
 refine w_loop (fun m l w1 => ∃ k : Nat, k + m = s.size ∧ look l 0 = .string s ∧ look l 12 = .int .i64 (s.size : Int) ∧ look l 13 = .int .i64 (k : Int) ∧ look l 2 = pt k1 0 ∧ look l 4 = pt k2 0 ∧ At w1 k1 [.int .u64 0, .int .u64 0, .int .u64 0, .int .u64 0] ∧ At w1 k2 (nvli (pvk s k)) ∧ pvk s k < MM ∧ Mo w w1) s.size ⟨0, by omega, rfl, rfl, rfl, rfl, rfl, Q1, Q2, by rw [pvk_z]; decide, M⟩ ?_
 clear M Q1 Q2
 rintro m l wl ⟨k, hk, e0, e12, e13, e2, e4, Q1, Q2, hv, M⟩
 have hv0 := pvk_nn hT k (by omega)
 by_cases hlt : k < s.size
 ·have hl : decide ((k : Int) < (s.size : Int)) = true := decide_eq_true (by omega)
  have hc := hT k hlt hlt
  cases hf : decide (pvk s k * 10 + ((s[k].toNat : Int) - 48) < MM) with
  | true =>
   refine w_seq (w_reg ?_)
   refine wl_bin (fun x y => do eqGuard .lss 3 (.tmp 13) (.tmp 12) x y; binOp .lss 3 x y) (.tmp 13) (.tmp 12) (.int .i64 ((k : Int))) (.int .i64 ((s.size : Int))) (.bool true) (fun _ => rfl) e13 e12 (lt3_run hl _ _ _) rfl ?_
   refine w_nil (xn_then (w_seq (w_condT rfl (w_skip (xn_then (w_seq (w_block (w_seq (w_reg ?_)))))))))
   refine wl_mv (.tmp 13) (.int .i64 ((k : Int))) (fun _ => rfl) e13 rfl ?_
   refine wl_m (.tmp 15) (.int .i64 ((k : Int))) ?_
   refine w_nil (xn_then (w_seq (w_reg ?_)))
   refine wl_m (.const (.bool false)) (.bool false) ?_
   refine w_nil (xn_then (w_seq ?_))
   refine w_any 8 [.inl (nv (pvk s k)), .inl (.string s), .inl (.int .i64 ((k : Int))), .inl (.int .u8 (s[k].toNat : Int)), .inl (.tuple #[nv (pvk s k * 10 + ((s[k].toNat : Int) - 48)), .bool true]), .inl (.tuple #[nv (pvk s k * 10 + ((s[k].toNat : Int) - 48)), .bool true]), .inl (nv (pvk s k * 10 + ((s[k].toNat : Int) - 48))), .inl (.bool true)] [7] (by kernel_rfl) (by kernel_rfl) (by kernel_rfl) (by kernel_rfl) rfl (by kernel_rfl) (by kernel_rfl) (late_cons ⟨_, _, rfl, rfl, fun _ _ _ _ h => h, fun f hd => ⟨rfl, la_un (fun v => Instr.extract v 1) (.tmp 16) (.tuple #[nv (pvk s k * 10 + ((s[k].toNat : Int) - 48)), .bool true]) (.bool true) (fun _ => rfl) (hd 5 rfl _ rfl) (fun w => by kernel_rfl)⟩⟩ late_nil) ?_ ?_ ?_
   ·exact Ds.none rfl
   ·refine ea_cons ?_ (ea_cons ?_ (ea_cons ?_ (ea_cons ?_ (ea_cons ?_ (ea_cons ?_ (ea_cons ?_ (ea_cons ?_ (ea_nil))))))))
    ·exact og_eq _ rfl (fun f wf hq hd K hK => have Q2 := Q2.mo hq; go_run rfl (wo_load 31 (.tmp 4) (pt k2 0) (nv (pvk s k)) rfl e4 (run_row Q2 31 0 4 (nvli (pvk s k)) rfl Tryd.underlying31 rfl sz24) (hK _ (Mo.refl _))))
    ·exact og_eq _ rfl (fun f wf hq hd K hK => go_run rfl (wo_mv (.tmp 0) (.string s) (fun _ => rfl) e0 (hK _ (Mo.refl _))))
    ·exact og_eq _ rfl (fun f wf hq hd K hK => go_run rfl (wo_mv (.tmp 5) (.int .i64 ((k : Int))) (fun _ => rfl) rfl (hK _ (Mo.refl _))))
    ·exact og_eq _ rfl (fun f wf hq hd K hK => go_run rfl (wo_bin (fun x y => Instr.index 9 x y) (.tmp 18) (.tmp 19) (.string s) (.int .i64 ((k : Int))) (.int .u8 (s[k].toNat : Int)) (fun _ => rfl) (hd 1 rfl) (hd 2 rfl) (idx_s s k hlt _) (hK _ (Mo.refl _))))
    ·exact og_eq _ rfl (fun f wf hq hd K hK => go_run rfl (wo_call 72 [(.tmp 17), (.tmp 20)] _ [nv (pvk s k), .int .u8 (s[k].toNat : Int)] (.tuple #[nv (pvk s k * 10 + ((s[k].toNat : Int) - 48)), .bool true]) rfl (li2 (hd 0 rfl) (hd 3 rfl)) (fun _ _ => by kernel_rfl) (apd_c s k _ hv0 hv hc.1 hc.2 hf) hK))
    ·exact og_eq _ rfl (fun f wf hq hd K hK => go_run rfl (wo_mv (.tmp 21) (.tuple #[nv (pvk s k * 10 + ((s[k].toNat : Int) - 48)), .bool true]) (fun _ => rfl) (hd 4 rfl) (hK _ (Mo.refl _))))
    ·exact og_eq _ rfl (fun f wf hq hd K hK => go_run rfl (wo_un (fun v => Instr.extract v 0) (.tmp 16) (.tuple #[nv (pvk s k * 10 + ((s[k].toNat : Int) - 48)), .bool true]) (nv (pvk s k * 10 + ((s[k].toNat : Int) - 48))) (fun _ => rfl) (hd 5 rfl) (by kernel_rfl) (hK _ (Mo.refl _))))
    ·exact og_eq _ rfl (fun f wf hq hd K hK => go_run rfl (wo_un (fun v => Instr.extract v 1) (.tmp 16) (.tuple #[nv (pvk s k * 10 + ((s[k].toNat : Int) - 48)), .bool true]) (.bool true) (fun _ => rfl) (hd 5 rfl) (by kernel_rfl) (hK _ (Mo.refl _))))
   intro kf51 w51 hq hR hne
   replace Q1 := Q1.mo hq
   replace Q2 := Q2.mo hq
   replace M := M.trans hq
   clear hq hR hne
   refine wl_st 31 (.tmp 4) (.tmp 22) k2 0 (nvar (pvk s k * 10 + ((s[k].toNat : Int) - 48))) (nvli (pvk s k)) (nvli (pvk s k * 10 + ((s[k].toNat : Int) - 48))) Q2 rfl rfl e4 rfl rfl sz24 rfl rfl rfl ?_
   intro w52 hS Qn
   replace Q2 := Qn
   clear Qn
   replace Q1 := hS.other _ _ ne_k1_k2 Q1
   replace M := hS.mo _ N_k2 M
   clear hS
   refine wl_m (.tmp 23) (.bool true) ?_
   refine w_nil (xn_then (w_seq (w_reg ?_)))
   refine wl_m (.tmp 6) (.bool true) ?_
   refine wl_un (fun v => Op.unary .not v) (.tmp 24) (.bool true) (.bool false) (fun _ => rfl) rfl (by kernel_rfl) rfl ?_
   refine w_nil (xn_then (w_condF rfl (w_skip (xn_blk (xn_then (w_reg ?_))))))
   refine wl_bin (fun x y => do eqGuard .add 3 (.tmp 13) (.const (.int .i64 (1))) x y; binOp .add 3 x y) (.tmp 13) (.const (.int .i64 (1))) (.int .i64 ((k : Int))) (.int .i64 (1)) (.int .i64 (((k + 1 : Nat) : Int))) (fun _ => rfl) e13 rfl (add1_run (by unfold maxLen at hs; omega) _ _ _) rfl ?_
   refine wl_m (.tmp 27) (.int .i64 (((k + 1 : Nat) : Int))) ?_
   refine w_nil ?_
   exact xn_loop (s.size - (k + 1)) (by omega) ⟨k + 1, by omega, e0, e12, rfl, e2, e4, Q1, by rw [pvk_succ s k hlt]; exact Q2, by rw [pvk_succ s k hlt]; exact of_decide_eq_true hf, M⟩
  | false =>
   refine w_seq (w_reg ?_)
   refine wl_bin (fun x y => do eqGuard .lss 3 (.tmp 13) (.tmp 12) x y; binOp .lss 3 x y) (.tmp 13) (.tmp 12) (.int .i64 ((k : Int))) (.int .i64 ((s.size : Int))) (.bool true) (fun _ => rfl) e13 e12 (lt3_run hl _ _ _) rfl ?_
   refine w_nil (xn_then (w_seq (w_condT rfl (w_skip (xn_then (w_seq (w_block (w_seq (w_reg ?_)))))))))
   refine wl_mv (.tmp 13) (.int .i64 ((k : Int))) (fun _ => rfl) e13 rfl ?_
   refine wl_m (.tmp 15) (.int .i64 ((k : Int))) ?_
   refine w_nil (xn_then (w_seq (w_reg ?_)))
   refine wl_m (.const (.bool false)) (.bool false) ?_
   refine w_nil (xn_then (w_seq ?_))
   refine w_any 8 [.inl (nv (pvk s k)), .inl (.string s), .inl (.int .i64 ((k : Int))), .inl (.int .u8 (s[k].toNat : Int)), .inl (.tuple #[nv (pvk s k * 10 + ((s[k].toNat : Int) - 48)), .bool false]), .inl (.tuple #[nv (pvk s k * 10 + ((s[k].toNat : Int) - 48)), .bool false]), .inl (nv (pvk s k * 10 + ((s[k].toNat : Int) - 48))), .inl (.bool false)] [7] (by kernel_rfl) (by kernel_rfl) (by kernel_rfl) (by kernel_rfl) rfl (by kernel_rfl) (by kernel_rfl) (late_cons ⟨_, _, rfl, rfl, fun _ _ _ _ h => h, fun f hd => ⟨rfl, la_un (fun v => Instr.extract v 1) (.tmp 16) (.tuple #[nv (pvk s k * 10 + ((s[k].toNat : Int) - 48)), .bool false]) (.bool false) (fun _ => rfl) (hd 5 rfl _ rfl) (fun w => by kernel_rfl)⟩⟩ late_nil) ?_ ?_ ?_
   ·exact Ds.none rfl
   ·refine ea_cons ?_ (ea_cons ?_ (ea_cons ?_ (ea_cons ?_ (ea_cons ?_ (ea_cons ?_ (ea_cons ?_ (ea_cons ?_ (ea_nil))))))))
    ·exact og_eq _ rfl (fun f wf hq hd K hK => have Q2 := Q2.mo hq; go_run rfl (wo_load 31 (.tmp 4) (pt k2 0) (nv (pvk s k)) rfl e4 (run_row Q2 31 0 4 (nvli (pvk s k)) rfl Tryd.underlying31 rfl sz24) (hK _ (Mo.refl _))))
    ·exact og_eq _ rfl (fun f wf hq hd K hK => go_run rfl (wo_mv (.tmp 0) (.string s) (fun _ => rfl) e0 (hK _ (Mo.refl _))))
    ·exact og_eq _ rfl (fun f wf hq hd K hK => go_run rfl (wo_mv (.tmp 5) (.int .i64 ((k : Int))) (fun _ => rfl) rfl (hK _ (Mo.refl _))))
    ·exact og_eq _ rfl (fun f wf hq hd K hK => go_run rfl (wo_bin (fun x y => Instr.index 9 x y) (.tmp 18) (.tmp 19) (.string s) (.int .i64 ((k : Int))) (.int .u8 (s[k].toNat : Int)) (fun _ => rfl) (hd 1 rfl) (hd 2 rfl) (idx_s s k hlt _) (hK _ (Mo.refl _))))
    ·exact og_eq _ rfl (fun f wf hq hd K hK => go_run rfl (wo_call 72 [(.tmp 17), (.tmp 20)] _ [nv (pvk s k), .int .u8 (s[k].toNat : Int)] (.tuple #[nv (pvk s k * 10 + ((s[k].toNat : Int) - 48)), .bool false]) rfl (li2 (hd 0 rfl) (hd 3 rfl)) (fun _ _ => by kernel_rfl) (apd_c s k _ hv0 hv hc.1 hc.2 hf) hK))
    ·exact og_eq _ rfl (fun f wf hq hd K hK => go_run rfl (wo_mv (.tmp 21) (.tuple #[nv (pvk s k * 10 + ((s[k].toNat : Int) - 48)), .bool false]) (fun _ => rfl) (hd 4 rfl) (hK _ (Mo.refl _))))
    ·exact og_eq _ rfl (fun f wf hq hd K hK => go_run rfl (wo_un (fun v => Instr.extract v 0) (.tmp 16) (.tuple #[nv (pvk s k * 10 + ((s[k].toNat : Int) - 48)), .bool false]) (nv (pvk s k * 10 + ((s[k].toNat : Int) - 48))) (fun _ => rfl) (hd 5 rfl) (by kernel_rfl) (hK _ (Mo.refl _))))
    ·exact og_eq _ rfl (fun f wf hq hd K hK => go_run rfl (wo_un (fun v => Instr.extract v 1) (.tmp 16) (.tuple #[nv (pvk s k * 10 + ((s[k].toNat : Int) - 48)), .bool false]) (.bool false) (fun _ => rfl) (hd 5 rfl) (by kernel_rfl) (hK _ (Mo.refl _))))
   intro kf51 w51 hq hR hne
   replace Q1 := Q1.mo hq
   replace Q2 := Q2.mo hq
   replace M := M.trans hq
   clear hq hR hne
   refine wl_st 31 (.tmp 4) (.tmp 22) k2 0 (nvar (pvk s k * 10 + ((s[k].toNat : Int) - 48))) (nvli (pvk s k)) (nvli (pvk s k * 10 + ((s[k].toNat : Int) - 48))) Q2 rfl rfl e4 rfl rfl sz24 rfl rfl rfl ?_
   intro w52 hS Qn
   replace Q2 := Qn
   clear Qn
   replace Q1 := hS.other _ _ ne_k1_k2 Q1
   replace M := hS.mo _ N_k2 M
   clear hS
   refine wl_m (.tmp 23) (.bool false) ?_
   refine w_nil (xn_then (w_seq (w_reg ?_)))
   refine wl_m (.tmp 6) (.bool false) ?_
   refine wl_un (fun v => Op.unary .not v) (.tmp 24) (.bool false) (.bool true) (fun _ => rfl) rfl (by kernel_rfl) rfl ?_
   refine w_nil (xn_then (w_condT rfl (w_seq (w_reg ?_))))
   refine wl_build 31 [] [] (.agg #[.int .u64 0, .int .u64 0, .int .u64 0, .int .u64 0]) rfl rfl (by kernel_rfl) rfl ?_
   refine wl_st 31 (.tmp 2) (.tmp 26) k1 0 #[.int .u64 0, .int .u64 0, .int .u64 0, .int .u64 0] _ [.int .u64 0, .int .u64 0, .int .u64 0, .int .u64 0] Q1 rfl rfl e2 rfl rfl sz24 rfl rfl rfl ?_
   intro w53 hS Qn
   replace Q1 := Qn
   clear Qn
   replace Q2 := hS.other _ _ ne_k1_k2.symm Q2
   replace M := hS.mo _ N_k1 M
   clear hS
   refine wl_m (.const (.int .i64 (7))) (.int .i64 (7)) ?_
   refine w_nil (xn_then (w_ret (xr_blk (xr_then (xr_then (xr_blk (xr_then ?_)))))))
   exact w_ret2 _ _ (.agg #[.int .u64 0, .int .u64 0, .int .u64 0, .int .u64 0]) (.int .i64 (7)) rfl ⟨k1, e2, (run_row Q1 31 0 4 _ rfl Tryd.underlying31 rfl sz24)⟩ rfl ⟨by rw [resP_over hT hlt (of_decide_eq_false hf)], M⟩
 ·have hl : decide ((k : Int) < (s.size : Int)) = false := decide_eq_false (by omega)
  refine w_seq (w_reg ?_)
  refine wl_bin (fun x y => do eqGuard .lss 3 (.tmp 13) (.tmp 12) x y; binOp .lss 3 x y) (.tmp 13) (.tmp 12) (.int .i64 ((k : Int))) (.int .i64 ((s.size : Int))) (.bool false) (fun _ => rfl) e13 e12 (lt3_run hl _ _ _) rfl ?_
  refine w_nil (xn_then (w_seq (w_condF rfl (w_exit (xx_then (xx_then (xx_blk (xn_then (w_seq (w_reg ?_))))))))))
  refine wl_load 31 (.tmp 4) (pt k2 0) (nv (pvk s k)) rfl e4 (run_row Q2 31 0 4 (nvli (pvk s k)) rfl Tryd.underlying31 rfl sz24) rfl ?_
  refine wl_st 31 (.tmp 2) (.tmp 28) k1 0 (nvar (pvk s k)) _ (nvli (pvk s k)) Q1 rfl rfl e2 rfl rfl sz24 rfl rfl rfl ?_
  intro w51 hS Qn
  replace Q1 := Qn
  clear Qn
  replace Q2 := hS.other _ _ ne_k1_k2.symm Q2
  replace M := hS.mo _ N_k1 M
  clear hS
  refine wl_m (.const (.int .i64 (0))) (.int .i64 (0)) ?_
  refine w_nil (xn_then (w_ret ?_))
  exact w_ret2 _ _ (nv (pvk s k)) (.int .i64 (0)) rfl ⟨k1, e2, (run_row Q1 31 0 4 (nvli (pvk s k)) rfl Tryd.underlying31 rfl sz24)⟩ rfl ⟨by rw [resP_ok (pvk_end hk hlt hv), ← pvk_eq hk hlt], M⟩
theorem parse_n (s : ByteArray) (w : World) [Decidable (isT s)] (hs : s.size ≤ maxLen) : Calls Tryd.prog 61 #[.string s] w fun e w' => e = .returned (if isT s then resP s else ez 10) ∧ Mo w w' := by
 have hi := fun w => isd_n s w hs
 by_cases h : isT s
 ·rw [if_pos h]
  rw [decide_eq_true h] at hi
  exact parse_yes2 s w hs h.2.2 hi
 ·rw [if_neg h]
  rw [decide_eq_false h] at hi
  exact parse_no s w hi
end Go.Proofs.YthgknegocfhdbaaDoor

/-
 dectext.isDecimal, Parse and ParseAt.
-/
namespace Go.Proofs.YthgknegocfhdbaaDoor
open Go.RowKit Go.Lib
theorem sz26 : (Tryd.prog.info? 33).map (·.size) = some 6 := by kernel_rfl
theorem nee_run {s : ByteArray} {r : Bool} (h : s.toList.isEmpty = r) (x y : Operand) (w : World) : (do eqGuard .neq 9 x y (.string s) (.string ⟨#[]⟩); binOp .neq 9 (.string s) (.string ⟨#[]⟩)).run Tryd.prog w = .ok (.bool (!r)) w := by
 subst h; simp [go_sem]
theorem eq3_run {a b : Int} {r : Bool} (h : (a == b) = r) (x y : Operand) (w : World) : (do eqGuard .eql 3 x y (.int .i64 a) (.int .i64 b); binOp .eql 3 (.int .i64 a) (.int .i64 b)).run Tryd.prog w = .ok (.bool r) w := by
 subst h; kernel_rfl
theorem tx_size (l : List UInt8) : (⟨l.toArray⟩ : ByteArray).size = l.length := by rw [← by8_len]
theorem len_tx (ρ : Operand → Value) (x : Operand) (l : List UInt8) (hx : ρ x = tx l) (dst : Option Tmp) (type : TypeId) (pos : String) (after : Array Edge) (guard : Option (Nat × Bool)) (w : World) : (execOp ρ { dst, op := .call { callee := .builtin .len, args := #[x], argTypes := #[9] }, type, pos, after, guard }).run Tryd.prog w = .ok (.value (.int .i64 (l.length : Int))) w := by
 rw [← tx_size l]; exact len_run ρ x _ hx dst type pos after guard w
def isDec (s : ByteArray) : Bool := !s.toList.isEmpty && ((pfx s : Int) == (s.size : Int))
theorem isDec_e (s : ByteArray) (w : World) (h0 : s.toList.isEmpty = true) : Calls Tryd.prog 58 #[.string s] w fun e w' => e = .returned (.bool false) ∧ Mo w w' := by
 refine w_enter 12 Tryd.func58 Tryd.ntmps58 rfl rfl ?_
 have M : Mo w w := Mo.refl _
 refine w_seq (w_reg ?_)
 refine wl_m (.const (.bool false)) (.bool false) ?_
 refine w_nil (xn_then (w_seq (w_reg ?_)))
 refine wl_m (.tmp 0) (.string s) ?_
 refine wl_b .neq 9 (.tmp 3) (.const (.string ⟨#[]⟩)) (.string s) (.string ⟨#[]⟩) (.bool false) (nee_run (r := true) h0 _ _ _) ?_
 refine wl_m (.tmp 4) (.bool false) ?_
 refine wl_skip rfl (wl_skip rfl (wl_skip rfl (wl_skip rfl (wl_skip rfl ?_))))
 refine wl_pick (.tmp 5) (.tmp 10) (.const (.bool false)) false (.bool false) (fun _ => rfl) rfl rfl rfl ?_
 refine wl_m (.tmp 11) (.bool false) ?_
 refine w_nil (xn_then (w_ret ?_))
 exact w_ret1 _ _ rfl rfl ⟨rfl, M⟩
theorem isDec_t (s : ByteArray) (w : World) (hs : s.size ≤ maxLen) (h0 : s.toList.isEmpty = false) (h1 : ((pfx s : Int) == (s.size : Int)) = true) : Calls Tryd.prog 58 #[.string s] w fun e w' => e = .returned (.bool true) ∧ Mo w w' := by
 refine w_enter 12 Tryd.func58 Tryd.ntmps58 rfl rfl ?_
 have M : Mo w w := Mo.refl _
 refine w_seq (w_reg ?_)
 refine wl_m (.const (.bool false)) (.bool false) ?_
 refine w_nil (xn_then (w_seq (w_reg ?_)))
 refine wl_m (.tmp 0) (.string s) ?_
 refine wl_b .neq 9 (.tmp 3) (.const (.string ⟨#[]⟩)) (.string s) (.string ⟨#[]⟩) (.bool true) (nee_run (r := false) h0 _ _ _) ?_
 refine wl_m (.tmp 4) (.bool true) ?_
 refine wl_m (.tmp 0) (.string s) ?_
 refine wl_call 47 [(.tmp 6)] _ [.string s] (.int .i64 ((pfx s : Int))) rfl rfl (fun _ _ => by kernel_rfl) (prefix_n s _ hs) rfl ?_
 intro w1 hq
 replace M := M.trans hq
 clear hq
 refine wl_m (.tmp 0) (.string s) ?_
 refine wl_val (.int .i64 ((s.size : Int))) (len_run _ _ s rfl _ _ _ _ _ _) rfl ?_
 refine wl_b .eql 3 (.tmp 7) (.tmp 9) (.int .i64 ((pfx s : Int))) (.int .i64 ((s.size : Int))) (.bool true) (eq3_run h1 _ _ _) ?_
 refine wl_pick (.tmp 5) (.tmp 10) (.const (.bool false)) true (.bool true) (fun _ => rfl) rfl rfl rfl ?_
 refine wl_m (.tmp 11) (.bool true) ?_
 refine w_nil (xn_then (w_ret ?_))
 exact w_ret1 _ _ rfl rfl ⟨rfl, M⟩
theorem isDec_f (s : ByteArray) (w : World) (hs : s.size ≤ maxLen) (h0 : s.toList.isEmpty = false) (h1 : ((pfx s : Int) == (s.size : Int)) = false) : Calls Tryd.prog 58 #[.string s] w fun e w' => e = .returned (.bool false) ∧ Mo w w' := by
 refine w_enter 12 Tryd.func58 Tryd.ntmps58 rfl rfl ?_
 have M : Mo w w := Mo.refl _
 refine w_seq (w_reg ?_)
 refine wl_m (.const (.bool false)) (.bool false) ?_
 refine w_nil (xn_then (w_seq (w_reg ?_)))
 refine wl_m (.tmp 0) (.string s) ?_
 refine wl_b .neq 9 (.tmp 3) (.const (.string ⟨#[]⟩)) (.string s) (.string ⟨#[]⟩) (.bool true) (nee_run (r := false) h0 _ _ _) ?_
 refine wl_m (.tmp 4) (.bool true) ?_
 refine wl_m (.tmp 0) (.string s) ?_
 refine wl_call 47 [(.tmp 6)] _ [.string s] (.int .i64 ((pfx s : Int))) rfl rfl (fun _ _ => by kernel_rfl) (prefix_n s _ hs) rfl ?_
 intro w1 hq
 replace M := M.trans hq
 clear hq
 refine wl_m (.tmp 0) (.string s) ?_
 refine wl_val (.int .i64 ((s.size : Int))) (len_run _ _ s rfl _ _ _ _ _ _) rfl ?_
 refine wl_b .eql 3 (.tmp 7) (.tmp 9) (.int .i64 ((pfx s : Int))) (.int .i64 ((s.size : Int))) (.bool false) (eq3_run h1 _ _ _) ?_
 refine wl_pick (.tmp 5) (.tmp 10) (.const (.bool false)) true (.bool false) (fun _ => rfl) rfl rfl rfl ?_
 refine wl_m (.tmp 11) (.bool false) ?_
 refine w_nil (xn_then (w_ret ?_))
 exact w_ret1 _ _ rfl rfl ⟨rfl, M⟩
theorem isDec_n (s : ByteArray) (w : World) (hs : s.size ≤ maxLen) : Calls Tryd.prog 58 #[.string s] w fun e w' => e = .returned (.bool (isDec s)) ∧ Mo w w' := by
 unfold isDec
 cases h0 : s.toList.isEmpty with
 | true => exact isDec_e s w h0
 | false =>
  cases h1 : ((pfx s : Int) == (s.size : Int)) with
  | true => exact isDec_t s w hs h0 h1
  | false => exact isDec_f s w hs h0 h1
theorem parse_b (s : ByteArray) (w : World) (hi : ∀ w, Calls Tryd.prog 58 #[.string s] w fun e w' => e = .returned (.bool true) ∧ Mo w w') (dg x1 x2 : List UInt8) (neg x3 : Bool)
  (hC : ∀ w, Calls Tryd.prog 59 #[.string s, .string ⟨#[45]⟩] w fun e w' => e = .returned (.tuple #[tx dg, .bool neg]) ∧ Mo w w')
  (hD : ∀ w, Calls Tryd.prog 60 #[tx dg, .string ⟨#[46]⟩] w fun e w' => e = .returned (.tuple #[tx x1, tx x2, .bool x3]) ∧ Mo w w') (hl : decide ((x2.length : Int) > 18) = true) : Calls Tryd.prog 48 #[.string s] w fun e w' => e = .returned (er 31) ∧ Mo w w' := by
 refine w_enter 47 Tryd.func48 Tryd.ntmps48 rfl rfl ?_
 have M : Mo w w := Mo.refl _
 refine w_seq (w_reg ?_)
 refine wl_alloc 33 #[.bool false, .int .u64 0, .int .u64 0, .int .u64 0, .int .u64 0, .int .i64 0] rfl (fun _ => by kernel_rfl) rfl ?_
 intro k1 w1 hk hz hq Q1
 have N_k1 : w.heap.size ≤ k1 := by have := M.size; omega
 replace M := M.trans hq
 clear hk hz hq
 refine wl_m (.const (.int .i64 (0))) (.int .i64 (0)) ?_
 refine w_nil (xn_then (w_seq (w_seq (w_reg ?_))))
 refine wl_m (.tmp 0) (.string s) ?_
 refine wl_call 58 [(.tmp 11)] _ [.string s] (.bool true) rfl rfl (fun _ _ => by kernel_rfl) (hi _) rfl ?_
 intro w2 hq
 replace Q1 := Q1.mo hq
 replace M := M.trans hq
 clear hq
 refine wl_un (fun v => Op.unary .not v) (.tmp 12) (.bool true) (.bool false) (fun _ => rfl) rfl (by kernel_rfl) rfl ?_
 refine w_nil (xn_then (w_condF rfl (w_skip (xn_then (w_seq (w_reg ?_))))))
 refine wl_m (.tmp 0) (.string s) ?_
 refine wl_call 59 [(.tmp 16), (.const (.string ⟨#[45]⟩))] _ [.string s, .string ⟨#[45]⟩] (.tuple #[tx dg, .bool (neg)]) rfl rfl (fun _ _ => by kernel_rfl) (hC _) rfl ?_
 intro w3 hq
 replace Q1 := Q1.mo hq
 replace M := M.trans hq
 clear hq
 refine wl_m (.tmp 17) (.tuple #[tx dg, .bool (neg)]) ?_
 refine wl_un (fun v => Instr.extract v 0) (.tmp 15) (.tuple #[tx dg, .bool (neg)]) (tx dg) (fun _ => rfl) rfl (by kernel_rfl) rfl ?_
 refine wl_un (fun v => Instr.extract v 1) (.tmp 15) (.tuple #[tx dg, .bool (neg)]) (.bool (neg)) (fun _ => rfl) rfl (by kernel_rfl) rfl ?_
 refine wl_m (.tmp 18) (tx dg) ?_
 refine wl_m (.tmp 19) (.bool (neg)) ?_
 refine w_nil (xn_then (w_seq (w_reg ?_)))
 refine wl_m (.tmp 4) (tx dg) ?_
 refine wl_call 60 [(.tmp 21), (.const (.string ⟨#[46]⟩))] _ [tx dg, .string ⟨#[46]⟩] (.tuple #[tx x1, tx x2, .bool (x3)]) rfl rfl (fun _ _ => by kernel_rfl) (hD _) rfl ?_
 intro w4 hq
 replace Q1 := Q1.mo hq
 replace M := M.trans hq
 clear hq
 refine wl_m (.tmp 22) (.tuple #[tx x1, tx x2, .bool (x3)]) ?_
 refine wl_un (fun v => Instr.extract v 0) (.tmp 20) (.tuple #[tx x1, tx x2, .bool (x3)]) (tx x1) (fun _ => rfl) rfl (by kernel_rfl) rfl ?_
 refine wl_un (fun v => Instr.extract v 1) (.tmp 20) (.tuple #[tx x1, tx x2, .bool (x3)]) (tx x2) (fun _ => rfl) rfl (by kernel_rfl) rfl ?_
 refine wl_un (fun v => Instr.extract v 2) (.tmp 20) (.tuple #[tx x1, tx x2, .bool (x3)]) (.bool (x3)) (fun _ => rfl) rfl (by kernel_rfl) rfl ?_
 refine wl_m (.tmp 23) (tx x1) ?_
 refine wl_m (.tmp 24) (tx x2) ?_
 refine wl_m (.tmp 25) (.bool (x3)) ?_
 refine w_nil (xn_then (w_seq (w_seq (w_reg ?_))))
 refine wl_m (.tmp 7) (tx x2) ?_
 refine wl_val (.int .i64 ((x2.length : Int))) (len_tx _ _ x2 rfl _ _ _ _ _ _) rfl ?_
 refine wl_b .gtr 3 (.tmp 27) (.const (.int .i64 (18))) (.int .i64 ((x2.length : Int))) (.int .i64 (18)) (.bool true) (gt3_run hl _ _ _) ?_
 refine w_nil (xn_then (w_condT rfl (w_seq (w_reg ?_))))
 refine wl_build 33 [] [] (.agg #[.bool false, .int .u64 0, .int .u64 0, .int .u64 0, .int .u64 0, .int .i64 0]) rfl rfl (by kernel_rfl) rfl ?_
 refine wl_st 33 (.tmp 2) (.tmp 29) k1 0 #[.bool false, .int .u64 0, .int .u64 0, .int .u64 0, .int .u64 0, .int .i64 0] _ [.bool false, .int .u64 0, .int .u64 0, .int .u64 0, .int .u64 0, .int .i64 0] Q1 rfl rfl rfl rfl rfl sz26 rfl rfl rfl ?_
 intro w5 hS Qn
 replace Q1 := Qn
 clear Qn
 replace M := hS.mo _ N_k1 M
 clear hS
 refine wl_m (.const (.int .i64 (31))) (.int .i64 (31)) ?_
 refine w_nil (xn_then (w_ret (xr_then ?_)))
 exact w_ret2 _ _ (.agg #[.bool false, .int .u64 0, .int .u64 0, .int .u64 0, .int .u64 0, .int .i64 0]) (.int .i64 (31)) rfl ⟨k1, rfl, (run_row Q1 33 0 6 _ rfl Tryd.underlying33 rfl sz26)⟩ rfl ⟨rfl, M⟩
theorem parse_c (s : ByteArray) (w : World) (hi : ∀ w, Calls Tryd.prog 58 #[.string s] w fun e w' => e = .returned (.bool true) ∧ Mo w w') (dg x1 x2 : List UInt8) (neg x3 : Bool)
  (hC : ∀ w, Calls Tryd.prog 59 #[.string s, .string ⟨#[45]⟩] w fun e w' => e = .returned (.tuple #[tx dg, .bool neg]) ∧ Mo w w')
  (hD : ∀ w, Calls Tryd.prog 60 #[tx dg, .string ⟨#[46]⟩] w fun e w' => e = .returned (.tuple #[tx x1, tx x2, .bool x3]) ∧ Mo w w')
  (z : List UInt8) (hl : decide ((x2.length : Int) > 18) = false) (hcat : x1.length + x2.length ≤ 9223372036854775807)
  (y : ByteArray) (hy : (⟨x1.toArray⟩ : ByteArray) ++ ⟨x2.toArray⟩ = y) (hZ : ∀ w, Calls Tryd.prog 62 #[.string y] w fun e w' => e = .returned (tx z) ∧ Mo w w') (N E : Int)
  (hP : ∀ w, Calls Tryd.prog 61 #[tx z] w fun e w' => e = .returned (.tuple #[nv N, .int .i64 E]) ∧ Mo w w') (hE : (E == 0) = false) : Calls Tryd.prog 48 #[.string s] w fun e w' => e = .returned (er E) ∧ Mo w w' := by
 refine w_enter 47 Tryd.func48 Tryd.ntmps48 rfl rfl ?_
 have M : Mo w w := Mo.refl _
 refine w_seq (w_reg ?_)
 refine wl_alloc 33 #[.bool false, .int .u64 0, .int .u64 0, .int .u64 0, .int .u64 0, .int .i64 0] rfl (fun _ => by kernel_rfl) rfl ?_
 intro k1 w1 hk hz hq Q1
 have N_k1 : w.heap.size ≤ k1 := by have := M.size; omega
 replace M := M.trans hq
 clear hk hz hq
 refine wl_m (.const (.int .i64 (0))) (.int .i64 (0)) ?_
 refine w_nil (xn_then (w_seq (w_seq (w_reg ?_))))
 refine wl_m (.tmp 0) (.string s) ?_
 refine wl_call 58 [(.tmp 11)] _ [.string s] (.bool true) rfl rfl (fun _ _ => by kernel_rfl) (hi _) rfl ?_
 intro w2 hq
 replace Q1 := Q1.mo hq
 replace M := M.trans hq
 clear hq
 refine wl_un (fun v => Op.unary .not v) (.tmp 12) (.bool true) (.bool false) (fun _ => rfl) rfl (by kernel_rfl) rfl ?_
 refine w_nil (xn_then (w_condF rfl (w_skip (xn_then (w_seq (w_reg ?_))))))
 refine wl_m (.tmp 0) (.string s) ?_
 refine wl_call 59 [(.tmp 16), (.const (.string ⟨#[45]⟩))] _ [.string s, .string ⟨#[45]⟩] (.tuple #[tx dg, .bool (neg)]) rfl rfl (fun _ _ => by kernel_rfl) (hC _) rfl ?_
 intro w3 hq
 replace Q1 := Q1.mo hq
 replace M := M.trans hq
 clear hq
 refine wl_m (.tmp 17) (.tuple #[tx dg, .bool (neg)]) ?_
 refine wl_un (fun v => Instr.extract v 0) (.tmp 15) (.tuple #[tx dg, .bool (neg)]) (tx dg) (fun _ => rfl) rfl (by kernel_rfl) rfl ?_
 refine wl_un (fun v => Instr.extract v 1) (.tmp 15) (.tuple #[tx dg, .bool (neg)]) (.bool (neg)) (fun _ => rfl) rfl (by kernel_rfl) rfl ?_
 refine wl_m (.tmp 18) (tx dg) ?_
 refine wl_m (.tmp 19) (.bool (neg)) ?_
 refine w_nil (xn_then (w_seq (w_reg ?_)))
 refine wl_m (.tmp 4) (tx dg) ?_
 refine wl_call 60 [(.tmp 21), (.const (.string ⟨#[46]⟩))] _ [tx dg, .string ⟨#[46]⟩] (.tuple #[tx x1, tx x2, .bool (x3)]) rfl rfl (fun _ _ => by kernel_rfl) (hD _) rfl ?_
 intro w4 hq
 replace Q1 := Q1.mo hq
 replace M := M.trans hq
 clear hq
 refine wl_m (.tmp 22) (.tuple #[tx x1, tx x2, .bool (x3)]) ?_
 refine wl_un (fun v => Instr.extract v 0) (.tmp 20) (.tuple #[tx x1, tx x2, .bool (x3)]) (tx x1) (fun _ => rfl) rfl (by kernel_rfl) rfl ?_
 refine wl_un (fun v => Instr.extract v 1) (.tmp 20) (.tuple #[tx x1, tx x2, .bool (x3)]) (tx x2) (fun _ => rfl) rfl (by kernel_rfl) rfl ?_
 refine wl_un (fun v => Instr.extract v 2) (.tmp 20) (.tuple #[tx x1, tx x2, .bool (x3)]) (.bool (x3)) (fun _ => rfl) rfl (by kernel_rfl) rfl ?_
 refine wl_m (.tmp 23) (tx x1) ?_
 refine wl_m (.tmp 24) (tx x2) ?_
 refine wl_m (.tmp 25) (.bool (x3)) ?_
 refine w_nil (xn_then (w_seq (w_seq (w_reg ?_))))
 refine wl_m (.tmp 7) (tx x2) ?_
 refine wl_val (.int .i64 ((x2.length : Int))) (len_tx _ _ x2 rfl _ _ _ _ _ _) rfl ?_
 refine wl_b .gtr 3 (.tmp 27) (.const (.int .i64 (18))) (.int .i64 ((x2.length : Int))) (.int .i64 (18)) (.bool false) (gt3_run hl _ _ _) ?_
 refine w_nil (xn_then (w_condF rfl (w_skip (xn_then (w_seq (w_reg ?_))))))
 refine wl_m (.tmp 6) (tx x1) ?_
 refine wl_m (.tmp 7) (tx x2) ?_
 refine wl_b .add 9 (.tmp 31) (.tmp 32) (tx x1) (tx x2) (.string y) (by rw [← hy]; exact V.cat_run _ _ (by rw [tx_size, tx_size]; exact hcat) _ _ _) ?_
 refine wl_call 62 [(.tmp 33)] _ [.string y] (tx z) rfl rfl (fun _ _ => by kernel_rfl) (hZ _) rfl ?_
 intro w5 hq
 replace Q1 := Q1.mo hq
 replace M := M.trans hq
 clear hq
 refine wl_call 61 [(.tmp 34)] _ [tx z] (.tuple #[.agg #[.int .u64 (l0 (N)), .int .u64 (l1 (N)), .int .u64 (l2 (N)), .int .u64 (l3 (N))], .int .i64 (E)]) rfl rfl (fun _ _ => by kernel_rfl) (hP _) rfl ?_
 intro w6 hq
 replace Q1 := Q1.mo hq
 replace M := M.trans hq
 clear hq
 refine wl_m (.tmp 35) (.tuple #[.agg #[.int .u64 (l0 (N)), .int .u64 (l1 (N)), .int .u64 (l2 (N)), .int .u64 (l3 (N))], .int .i64 (E)]) ?_
 refine wl_un (fun v => Instr.extract v 0) (.tmp 30) (.tuple #[.agg #[.int .u64 (l0 (N)), .int .u64 (l1 (N)), .int .u64 (l2 (N)), .int .u64 (l3 (N))], .int .i64 (E)]) (.agg #[.int .u64 (l0 (N)), .int .u64 (l1 (N)), .int .u64 (l2 (N)), .int .u64 (l3 (N))]) (fun _ => rfl) rfl (by kernel_rfl) rfl ?_
 refine wl_un (fun v => Instr.extract v 1) (.tmp 30) (.tuple #[.agg #[.int .u64 (l0 (N)), .int .u64 (l1 (N)), .int .u64 (l2 (N)), .int .u64 (l3 (N))], .int .i64 (E)]) (.int .i64 (E)) (fun _ => rfl) rfl (by kernel_rfl) rfl ?_
 refine wl_alloc 31 #[.int .u64 0, .int .u64 0, .int .u64 0, .int .u64 0] rfl (fun _ => by kernel_rfl) rfl ?_
 intro k2 w7 hk hz hq Q2
 have ne_k1_k2 : k1 ≠ k2 := by have := Q1.lt; omega
 have N_k2 : w.heap.size ≤ k2 := by have := M.size; omega
 replace Q1 := Q1.mo hq
 replace M := M.trans hq
 clear hk hz hq
 refine wl_st 31 (.tmp 9) (.tmp 36) k2 0 #[.int .u64 (l0 (N)), .int .u64 (l1 (N)), .int .u64 (l2 (N)), .int .u64 (l3 (N))] _ [.int .u64 (l0 (N)), .int .u64 (l1 (N)), .int .u64 (l2 (N)), .int .u64 (l3 (N))] Q2 rfl rfl rfl rfl rfl sz24 rfl rfl rfl ?_
 intro w8 hS Qn
 replace Q2 := Qn
 clear Qn
 replace Q1 := hS.other _ _ ne_k1_k2 Q1
 replace M := hS.mo _ N_k2 M
 clear hS
 refine wl_m (.tmp 37) (.int .i64 (E)) ?_
 refine w_nil (xn_then (w_seq (w_seq (w_reg ?_))))
 refine wl_m (.tmp 10) (.int .i64 (E)) ?_
 refine wl_b .neq 23 (.tmp 38) (.const (.int .i64 (0))) (.int .i64 (E)) (.int .i64 (0)) (.bool true) (V.neE (r := false) hE _ _ _) ?_
 refine w_nil (xn_then (w_condT rfl (w_seq (w_reg ?_))))
 refine wl_build 33 [] [] (.agg #[.bool false, .int .u64 0, .int .u64 0, .int .u64 0, .int .u64 0, .int .i64 0]) rfl rfl (by kernel_rfl) rfl ?_
 refine wl_m (.tmp 10) (.int .i64 (E)) ?_
 refine wl_st 33 (.tmp 2) (.tmp 40) k1 0 #[.bool false, .int .u64 0, .int .u64 0, .int .u64 0, .int .u64 0, .int .i64 0] _ [.bool false, .int .u64 0, .int .u64 0, .int .u64 0, .int .u64 0, .int .i64 0] Q1 rfl rfl rfl rfl rfl sz26 rfl rfl rfl ?_
 intro w9 hS Qn
 replace Q1 := Qn
 clear Qn
 replace Q2 := hS.other _ _ ne_k1_k2.symm Q2
 replace M := hS.mo _ N_k1 M
 clear hS
 refine wl_m (.tmp 41) (.int .i64 (E)) ?_
 refine w_nil (xn_then (w_ret (xr_then ?_)))
 exact w_ret2 _ _ (.agg #[.bool false, .int .u64 0, .int .u64 0, .int .u64 0, .int .u64 0, .int .i64 0]) (.int .i64 (E)) rfl ⟨k1, rfl, (run_row Q1 33 0 6 _ rfl Tryd.underlying33 rfl sz26)⟩ rfl ⟨rfl, M⟩
theorem parse_d (s : ByteArray) (w : World) (hi : ∀ w, Calls Tryd.prog 58 #[.string s] w fun e w' => e = .returned (.bool true) ∧ Mo w w') (dg x1 x2 : List UInt8) (neg x3 : Bool)
  (hC : ∀ w, Calls Tryd.prog 59 #[.string s, .string ⟨#[45]⟩] w fun e w' => e = .returned (.tuple #[tx dg, .bool neg]) ∧ Mo w w')
  (hD : ∀ w, Calls Tryd.prog 60 #[tx dg, .string ⟨#[46]⟩] w fun e w' => e = .returned (.tuple #[tx x1, tx x2, .bool x3]) ∧ Mo w w')
  (z : List UInt8) (hl : decide ((x2.length : Int) > 18) = false) (hcat : x1.length + x2.length ≤ 9223372036854775807)
  (y : ByteArray) (hy : (⟨x1.toArray⟩ : ByteArray) ++ ⟨x2.toArray⟩ = y) (hZ : ∀ w, Calls Tryd.prog 62 #[.string y] w fun e w' => e = .returned (tx z) ∧ Mo w w') (N E : Int)
  (hP : ∀ w, Calls Tryd.prog 61 #[tx z] w fun e w' => e = .returned (.tuple #[nv N, .int .i64 E]) ∧ Mo w w') (hE : (E == 0) = true) : Calls Tryd.prog 48 #[.string s] w fun e w' => e = .returned (.tuple #[dc neg N (x2.length : Int), .int .i64 0]) ∧ Mo w w' := by
 refine w_enter 47 Tryd.func48 Tryd.ntmps48 rfl rfl ?_
 have M : Mo w w := Mo.refl _
 refine w_seq (w_reg ?_)
 refine wl_alloc 33 #[.bool false, .int .u64 0, .int .u64 0, .int .u64 0, .int .u64 0, .int .i64 0] rfl (fun _ => by kernel_rfl) rfl ?_
 intro k1 w1 hk hz hq Q1
 have N_k1 : w.heap.size ≤ k1 := by have := M.size; omega
 replace M := M.trans hq
 clear hk hz hq
 refine wl_m (.const (.int .i64 (0))) (.int .i64 (0)) ?_
 refine w_nil (xn_then (w_seq (w_seq (w_reg ?_))))
 refine wl_m (.tmp 0) (.string s) ?_
 refine wl_call 58 [(.tmp 11)] _ [.string s] (.bool true) rfl rfl (fun _ _ => by kernel_rfl) (hi _) rfl ?_
 intro w2 hq
 replace Q1 := Q1.mo hq
 replace M := M.trans hq
 clear hq
 refine wl_un (fun v => Op.unary .not v) (.tmp 12) (.bool true) (.bool false) (fun _ => rfl) rfl (by kernel_rfl) rfl ?_
 refine w_nil (xn_then (w_condF rfl (w_skip (xn_then (w_seq (w_reg ?_))))))
 refine wl_m (.tmp 0) (.string s) ?_
 refine wl_call 59 [(.tmp 16), (.const (.string ⟨#[45]⟩))] _ [.string s, .string ⟨#[45]⟩] (.tuple #[tx dg, .bool (neg)]) rfl rfl (fun _ _ => by kernel_rfl) (hC _) rfl ?_
 intro w3 hq
 replace Q1 := Q1.mo hq
 replace M := M.trans hq
 clear hq
 refine wl_m (.tmp 17) (.tuple #[tx dg, .bool (neg)]) ?_
 refine wl_un (fun v => Instr.extract v 0) (.tmp 15) (.tuple #[tx dg, .bool (neg)]) (tx dg) (fun _ => rfl) rfl (by kernel_rfl) rfl ?_
 refine wl_un (fun v => Instr.extract v 1) (.tmp 15) (.tuple #[tx dg, .bool (neg)]) (.bool (neg)) (fun _ => rfl) rfl (by kernel_rfl) rfl ?_
 refine wl_m (.tmp 18) (tx dg) ?_
 refine wl_m (.tmp 19) (.bool (neg)) ?_
 refine w_nil (xn_then (w_seq (w_reg ?_)))
 refine wl_m (.tmp 4) (tx dg) ?_
 refine wl_call 60 [(.tmp 21), (.const (.string ⟨#[46]⟩))] _ [tx dg, .string ⟨#[46]⟩] (.tuple #[tx x1, tx x2, .bool (x3)]) rfl rfl (fun _ _ => by kernel_rfl) (hD _) rfl ?_
 intro w4 hq
 replace Q1 := Q1.mo hq
 replace M := M.trans hq
 clear hq
 refine wl_m (.tmp 22) (.tuple #[tx x1, tx x2, .bool (x3)]) ?_
 refine wl_un (fun v => Instr.extract v 0) (.tmp 20) (.tuple #[tx x1, tx x2, .bool (x3)]) (tx x1) (fun _ => rfl) rfl (by kernel_rfl) rfl ?_
 refine wl_un (fun v => Instr.extract v 1) (.tmp 20) (.tuple #[tx x1, tx x2, .bool (x3)]) (tx x2) (fun _ => rfl) rfl (by kernel_rfl) rfl ?_
 refine wl_un (fun v => Instr.extract v 2) (.tmp 20) (.tuple #[tx x1, tx x2, .bool (x3)]) (.bool (x3)) (fun _ => rfl) rfl (by kernel_rfl) rfl ?_
 refine wl_m (.tmp 23) (tx x1) ?_
 refine wl_m (.tmp 24) (tx x2) ?_
 refine wl_m (.tmp 25) (.bool (x3)) ?_
 refine w_nil (xn_then (w_seq (w_seq (w_reg ?_))))
 refine wl_m (.tmp 7) (tx x2) ?_
 refine wl_val (.int .i64 ((x2.length : Int))) (len_tx _ _ x2 rfl _ _ _ _ _ _) rfl ?_
 refine wl_b .gtr 3 (.tmp 27) (.const (.int .i64 (18))) (.int .i64 ((x2.length : Int))) (.int .i64 (18)) (.bool false) (gt3_run hl _ _ _) ?_
 refine w_nil (xn_then (w_condF rfl (w_skip (xn_then (w_seq (w_reg ?_))))))
 refine wl_m (.tmp 6) (tx x1) ?_
 refine wl_m (.tmp 7) (tx x2) ?_
 refine wl_b .add 9 (.tmp 31) (.tmp 32) (tx x1) (tx x2) (.string y) (by rw [← hy]; exact V.cat_run _ _ (by rw [tx_size, tx_size]; exact hcat) _ _ _) ?_
 refine wl_call 62 [(.tmp 33)] _ [.string y] (tx z) rfl rfl (fun _ _ => by kernel_rfl) (hZ _) rfl ?_
 intro w5 hq
 replace Q1 := Q1.mo hq
 replace M := M.trans hq
 clear hq
 refine wl_call 61 [(.tmp 34)] _ [tx z] (.tuple #[.agg #[.int .u64 (l0 (N)), .int .u64 (l1 (N)), .int .u64 (l2 (N)), .int .u64 (l3 (N))], .int .i64 (E)]) rfl rfl (fun _ _ => by kernel_rfl) (hP _) rfl ?_
 intro w6 hq
 replace Q1 := Q1.mo hq
 replace M := M.trans hq
 clear hq
 refine wl_m (.tmp 35) (.tuple #[.agg #[.int .u64 (l0 (N)), .int .u64 (l1 (N)), .int .u64 (l2 (N)), .int .u64 (l3 (N))], .int .i64 (E)]) ?_
 refine wl_un (fun v => Instr.extract v 0) (.tmp 30) (.tuple #[.agg #[.int .u64 (l0 (N)), .int .u64 (l1 (N)), .int .u64 (l2 (N)), .int .u64 (l3 (N))], .int .i64 (E)]) (.agg #[.int .u64 (l0 (N)), .int .u64 (l1 (N)), .int .u64 (l2 (N)), .int .u64 (l3 (N))]) (fun _ => rfl) rfl (by kernel_rfl) rfl ?_
 refine wl_un (fun v => Instr.extract v 1) (.tmp 30) (.tuple #[.agg #[.int .u64 (l0 (N)), .int .u64 (l1 (N)), .int .u64 (l2 (N)), .int .u64 (l3 (N))], .int .i64 (E)]) (.int .i64 (E)) (fun _ => rfl) rfl (by kernel_rfl) rfl ?_
 refine wl_alloc 31 #[.int .u64 0, .int .u64 0, .int .u64 0, .int .u64 0] rfl (fun _ => by kernel_rfl) rfl ?_
 intro k2 w7 hk hz hq Q2
 have ne_k1_k2 : k1 ≠ k2 := by have := Q1.lt; omega
 have N_k2 : w.heap.size ≤ k2 := by have := M.size; omega
 replace Q1 := Q1.mo hq
 replace M := M.trans hq
 clear hk hz hq
 refine wl_st 31 (.tmp 9) (.tmp 36) k2 0 #[.int .u64 (l0 (N)), .int .u64 (l1 (N)), .int .u64 (l2 (N)), .int .u64 (l3 (N))] _ [.int .u64 (l0 (N)), .int .u64 (l1 (N)), .int .u64 (l2 (N)), .int .u64 (l3 (N))] Q2 rfl rfl rfl rfl rfl sz24 rfl rfl rfl ?_
 intro w8 hS Qn
 replace Q2 := Qn
 clear Qn
 replace Q1 := hS.other _ _ ne_k1_k2 Q1
 replace M := hS.mo _ N_k2 M
 clear hS
 refine wl_m (.tmp 37) (.int .i64 (E)) ?_
 refine w_nil (xn_then (w_seq (w_seq (w_reg ?_))))
 refine wl_m (.tmp 10) (.int .i64 (E)) ?_
 refine wl_b .neq 23 (.tmp 38) (.const (.int .i64 (0))) (.int .i64 (E)) (.int .i64 (0)) (.bool false) (V.neE (r := true) hE _ _ _) ?_
 refine w_nil (xn_then (w_condF rfl (w_skip (xn_then (w_seq (w_reg ?_))))))
 refine wl_m (.tmp 5) (.bool (neg)) ?_
 refine wl_l 31 (.tmp 9) (pt k2 0) (.agg #[.int .u64 (l0 (N)), .int .u64 (l1 (N)), .int .u64 (l2 (N)), .int .u64 (l3 (N))]) (run_row Q2 31 0 4 _ rfl Tryd.underlying31 rfl sz24) ?_
 refine wl_m (.tmp 7) (tx x2) ?_
 refine wl_val (.int .i64 ((x2.length : Int))) (len_tx _ _ x2 rfl _ _ _ _ _ _) rfl ?_
 refine wl_build 33 [(0, (.tmp 42)), (1, (.tmp 43)), (2, (.tmp 45))] [(0, .bool (neg)), (1, .agg #[.int .u64 (l0 (N)), .int .u64 (l1 (N)), .int .u64 (l2 (N)), .int .u64 (l3 (N))]), (2, .int .i64 ((x2.length : Int)))] (.agg #[.bool (neg), .int .u64 (l0 (N)), .int .u64 (l1 (N)), .int .u64 (l2 (N)), .int .u64 (l3 (N)), .int .i64 ((x2.length : Int))]) rfl rfl (by kernel_rfl) rfl ?_
 refine wl_st 33 (.tmp 2) (.tmp 46) k1 0 #[.bool (neg), .int .u64 (l0 (N)), .int .u64 (l1 (N)), .int .u64 (l2 (N)), .int .u64 (l3 (N)), .int .i64 ((x2.length : Int))] _ [.bool (neg), .int .u64 (l0 (N)), .int .u64 (l1 (N)), .int .u64 (l2 (N)), .int .u64 (l3 (N)), .int .i64 ((x2.length : Int))] Q1 rfl rfl rfl rfl rfl sz26 rfl rfl rfl ?_
 intro w9 hS Qn
 replace Q1 := Qn
 clear Qn
 replace Q2 := hS.other _ _ ne_k1_k2.symm Q2
 replace M := hS.mo _ N_k1 M
 clear hS
 refine wl_m (.const (.int .i64 (0))) (.int .i64 (0)) ?_
 refine w_nil (xn_then (w_ret ?_))
 exact w_ret2 _ _ (.agg #[.bool (neg), .int .u64 (l0 (N)), .int .u64 (l1 (N)), .int .u64 (l2 (N)), .int .u64 (l3 (N)), .int .i64 ((x2.length : Int))]) (.int .i64 (0)) rfl ⟨k1, rfl, (run_row Q1 33 0 6 _ rfl Tryd.underlying33 rfl sz26)⟩ rfl ⟨rfl, M⟩
end Go.Proofs.YthgknegocfhdbaaDoor

/-
 Runs of digits; when a text is a decimal one, in closed form.
-/
namespace Go.Proofs.YthgknegocfhdbaaDoor
open Go.RowKit
theorem re_ge (s : ByteArray) (k : Nat) : k ≤ re s k := by
 by_cases h : dgt (bt s k) = true
 ·rw [re_on h]; have := re_ge s (k + 1); omega
 ·rw [re_end (by simpa using h)]; omega
termination_by s.size - k
decreasing_by have := dgt_in h; omega
theorem re_lt {s : ByteArray} {k : Nat} (h : dgt (bt s k) = true) : k < re s k := by
 rw [re_on h]; have := re_ge s (k + 1); omega
theorem re_le {s : ByteArray} {k : Nat} (hk : k ≤ s.size) : re s k ≤ s.size := by
 by_cases h : dgt (bt s k) = true
 ·rw [re_on h]; have := dgt_in h; exact re_le (by omega)
 ·rw [re_end (by simpa using h)]; omega
termination_by s.size - k
decreasing_by omega
theorem re_eq {s : ByteArray} {k e : Nat} (h1 : k ≤ e) (h2 : ∀ j, k ≤ j → j < e → dgt (bt s j) = true) (h3 : dgt (bt s e) = false) : re s k = e := by
 by_cases hk : k = e
 ·subst hk; exact re_end h3
 ·have hd := h2 k (Nat.le_refl _) (by omega)
  rw [re_on hd]
  exact re_eq (by omega) (fun j a b => h2 j (by omega) b) h3
termination_by e - k
theorem az_iff {s : ByteArray} {k : Nat} : az s k = true ↔ ∀ j, k ≤ j → j < re s k → bt s j = 48 := by
 by_cases h : dgt (bt s k) = true
 ·rw [az_on h, Bool.and_eq_true, az_iff (s := s) (k := k + 1), re_on h]
  constructor
  ·rintro ⟨a, b⟩ j h1 h2
   by_cases e : k = j
   ·subst e; exact eq_of_beq a
   ·exact b j (by omega) h2
  ·intro a
   have := re_ge s (k + 1)
   exact ⟨by rw [a k (Nat.le_refl _) (by omega)]; rfl, fun j h1 h2 => a j (by omega) h2⟩
 ·have h' : dgt (bt s k) = false := by simpa using h
  rw [az_end h', re_end h']
  exact ⟨fun _ j a b => by omega, fun _ => rfl⟩
termination_by s.size - k
decreasing_by have := dgt_in h; omega
def whp (s : ByteArray) (p : Nat) (b : Bool) : Bool :=
 decide (re s p ≠ p) && !((bt s p == 48) && decide (re s p > p + 1)) &&
  (if re s p < s.size then (bt s (re s p) == 46) && decide (re s p + 1 ≠ s.size) && decide (re s (re s p + 1) = s.size) && (!az s p || !az s (re s p + 1) || !b) else (!az s p || !b))
def whl (s : ByteArray) : Bool := if bt s 0 == 45 then whp s 1 true else whp s 0 false
theorem ah_of {s : ByteArray} {e : Nat} {b : Bool} (hs : 0 < s.size) (hel : e ≤ s.size) :
  (ah s e b 0 = s.size) ↔ (if e < s.size then bt s e = 46 ∧ e + 1 ≠ s.size ∧ re s (e + 1) = s.size ∧ (az s (e + 1) = false ∨ b = false) else b = false) := by
 unfold ah
 by_cases he : e < s.size
 ·rw [if_pos he]
  by_cases h46 : bt s e = 46
  ·rw [h46]
   by_cases hd : dgt (bt s (e + 1)) = true
   ·have := re_lt hd; have := dgt_in hd
    rw [hd]
    cases hb : b <;> cases ha : az s (e + 1) <;> simp <;> omega
   ·have hd' : dgt (bt s (e + 1)) = false := by simpa using hd
    rw [hd', re_end hd']
    cases hb : b <;> simp <;> omega
  ·have : (bt s e == 46) = false := beq_eq_false_iff_ne.2 h46
   rw [this]
   cases hb : b <;> simp [h46] <;> omega
 ·rw [if_neg he]
  have e1 : e = s.size := by omega
  have : bt s e = 0 := bt_out he
  rw [this]
  cases hb : b <;> simp <;> omega
theorem fi_whp {s : ByteArray} {p : Nat} {b : Bool} (hs : 0 < s.size) (hp : p ≤ s.size) : decide (fi s p b = s.size) = whp s p b := by
 rw [Bool.eq_iff_iff, decide_eq_true_iff]
 unfold fi whp
 by_cases h48 : bt s p = 48
 ·have hd : dgt (bt s p) = true := by rw [h48]; rfl
  have hin := dgt_in hd
  rw [h48, re_on hd, az_on hd, h48]
  simp only [beq_self_eq_true, if_true, Bool.true_and]
  have hge := re_ge s (p + 1)
  by_cases hd2 : dgt (bt s (p + 1)) = true
  ·have hl := re_lt hd2; have := dgt_in hd2
   have h46 : (bt s (p + 1) == 46) = false := by
    cases h : (bt s (p + 1) == 46) with
    | false => rfl
    | true => rw [eq_of_beq h] at hd2; cases hd2
   unfold ah
   rw [h46]
   cases b <;> simp <;> omega
  ·have hd2' : dgt (bt s (p + 1)) = false := by simpa using hd2
   rw [ah_of hs (by omega), re_end hd2', az_end hd2']
   by_cases he : p + 1 < s.size
   ·rw [if_pos he, if_pos he]
    cases b <;> simp [and_assoc]
   ·rw [if_neg he, if_neg he]
    cases b <;> simp
 ·have e48 : (bt s p == 48) = false := beq_eq_false_iff_ne.2 h48
  rw [e48]
  simp only [Bool.false_eq_true, if_false, Bool.false_and, Bool.not_false, Bool.and_true]
  by_cases hd : dgt (bt s p) = true
  ·have hl := re_lt hd
   rw [if_pos hd, ah_of hs (re_le hp), az_on hd, e48]
   have : re s p ≠ p := by omega
   simp only [this, ne_eq, not_false_eq_true, decide_true, Bool.true_and, Bool.false_and, Bool.not_false, Bool.true_or, Bool.and_true]
   by_cases he : re s p < s.size
   ·rw [if_pos he, if_pos he]; simp [and_assoc]
   ·rw [if_neg he, if_neg he]; simp
  ·have hd' : dgt (bt s p) = false := by simpa using hd
   rw [if_neg (by simpa using hd), re_end hd']
   simp; omega
theorem whl_dec (s : ByteArray) : whl s = isDec s := by
 unfold isDec whl pfx
 rw [emp_iff]
 by_cases hs : s.size = 0
 ·have h0 : bt s 0 = 0 := bt_out (by omega)
  have hd : dgt (bt s 0) = false := by rw [h0]; rfl
  rw [decide_eq_true hs, h0]
  unfold whp
  rw [re_end hd]
  simp
 ·rw [decide_eq_false hs]
  have hb : ∀ n : Nat, ((n : Int) == (s.size : Int)) = decide (n = s.size) := fun n => by
   rw [Bool.eq_iff_iff, beq_iff_eq, decide_eq_true_iff]; omega
  rw [hb]
  cases h : (bt s 0 == 45) with
  | true =>
   rw [if_pos rfl, if_pos rfl, fi_whp (by omega) (by omega)]; rfl
  | false =>
   rw [if_neg (by simp), if_neg (by simp), fi_whp (by omega) (by omega)]; rfl
end Go.Proofs.YthgknegocfhdbaaDoor

/-
 Texts that the document fixes.
-/
namespace Go.Proofs.YthgknegocfhdbaaDoor
open Go.RowKit Go.Lib
abbrev s3 : ByteArray := ⟨#[51]⟩
end Go.Proofs.YthgknegocfhdbaaDoor

/-
 A text's beginning and end, as operations.
-/
namespace Go.Proofs.YthgknegocfhdbaaDoor
open Go.RowKit Go.Lib
theorem drop_tx (l : List UInt8) (j : Nat) : Value.string ((⟨l.toArray⟩ : ByteArray).extract j (⟨l.toArray⟩ : ByteArray).size) = tx (l.drop j) := by
 rw [tx_of, by8_ext, tx_size]
 have : ((by8 (⟨l.toArray⟩ : ByteArray)).drop j).take (l.length - j) = l.drop j := List.take_of_length_le (by simp [by8])
 rw [this]
theorem lo_run (ρ : Operand → Value) (x y : Operand) (l : List UInt8) (j : Nat) (hx : ρ x = tx l) (hy : ρ y = .int .i64 (j : Int)) (hj : j ≤ l.length) (dst : Option Tmp) (type : TypeId) (pos : String) (after : Array Edge) (guard : Option (Nat × Bool)) (w : World) :
  (execOp ρ { dst, op := .slice 9 x (some y) none none, type, pos, after, guard }).run Tryd.prog w = .ok (.value (tx (l.drop j))) w := by
 have h1 : (j : Int) ≤ ((⟨l.toArray⟩ : ByteArray).size : Int) := by rw [tx_size]; omega
 have h0 : (0 : Int) ≤ (j : Int) := by omega
 rw [← drop_tx]
 unfold tx at hx
 generalize (⟨l.toArray⟩ : ByteArray) = s at *
 simp [go_sem, hx, hy, h1, h0]
end Go.Proofs.YthgknegocfhdbaaDoor

/-
 exciseref03.whole: is a text a decimal one?
-/
namespace Go.Proofs.YthgknegocfhdbaaDoor
open Go.RowKit
theorem len_s (ρ : Operand → Value) (x : Operand) (s : ByteArray) (hx : ρ x = .string s) (dst : Option Tmp) (type : TypeId) (pos : String) (after : Array Edge) (guard : Option (Nat × Bool)) (w : World) : (execOp ρ { dst, op := .call { callee := .builtin .len, args := #[x], argTypes := #[9] }, type, pos, after, guard }).run Tryd.prog w = .ok (.value (.int .i64 (s.size : Int))) w := by
 simp [go_sem, hx]
theorem ltN {a b : Nat} {r : Bool} (h : decide (a < b) = r) (x y : Operand) (w : World) : (do eqGuard .lss 3 x y (.int .i64 (a : Int)) (.int .i64 (b : Int)); binOp .lss 3 (.int .i64 (a : Int)) (.int .i64 (b : Int))).run Tryd.prog w = .ok (.bool r) w :=
 lt3_run (by rw [← h]; exact decide_eq_decide.2 Int.ofNat_lt) _ _ _
theorem gtN {a b : Nat} {r : Bool} (h : decide (b < a) = r) (x y : Operand) (w : World) : (do eqGuard .gtr 3 x y (.int .i64 (a : Int)) (.int .i64 (b : Int)); binOp .gtr 3 (.int .i64 (a : Int)) (.int .i64 (b : Int))).run Tryd.prog w = .ok (.bool r) w :=
 gt3_run (by rw [← h]; exact decide_eq_decide.2 Int.ofNat_lt) _ _ _
theorem eqN {a b : Nat} {r : Bool} (h : decide (a = b) = r) (x y : Operand) (w : World) : (do eqGuard .eql 3 x y (.int .i64 (a : Int)) (.int .i64 (b : Int)); binOp .eql 3 (.int .i64 (a : Int)) (.int .i64 (b : Int))).run Tryd.prog w = .ok (.bool r) w :=
 eq3_run (by rw [← h, Bool.eq_iff_iff, beq_iff_eq, decide_eq_true_iff]; omega) _ _ _
theorem idx_b {s : ByteArray} {k : Nat} (h : k < s.size) (w : World) : (Instr.index 9 (.string s) (.int .i64 (k : Int))).run Tryd.prog w = .ok (.int .u8 (bt s k)) w := by
 rw [bt_in h]
 simp [go_sem, h]
end Go.Proofs.YthgknegocfhdbaaDoor

/-
 lex.Blank and the document's, whatever the text.
-/
namespace Go.Proofs.YthgknegocfhdbaaDoor
open Go.RowKit
def isb (c : Int) : Bool := c == 32 || c == 9 || c == 10 || c == 13
def lnx (s : ByteArray) (k : Nat) : Nat := if h : k < s.size ∧ (bt s k == 10) = false then lnx s (k + 1) else k
termination_by s.size - k
decreasing_by omega
theorem lnx_on {s : ByteArray} {k : Nat} (h : k < s.size) (h2 : (bt s k == 10) = false) : lnx s k = lnx s (k + 1) := by rw [lnx, dif_pos ⟨h, h2⟩]
theorem lnx_at {s : ByteArray} {k : Nat} (h2 : (bt s k == 10) = true) : lnx s k = k := by rw [lnx, dif_neg (fun h => by rw [h2] at h; cases h.2)]
theorem lnx_end {s : ByteArray} {k : Nat} (h : ¬ k < s.size) : lnx s k = k := by rw [lnx, dif_neg (fun h2 => h h2.1)]
theorem lnx_ge (s : ByteArray) : ∀ (d k : Nat), d = s.size - k → k ≤ lnx s k := by
 intro d
 induction d with
 | zero => intro k hd; rw [lnx_end (by omega)]; exact Nat.le_refl _
 | succ d ih =>
  intro k hd
  cases h : (bt s k == 10) with
  | true => rw [lnx_at h]; exact Nat.le_refl _
  | false => rw [lnx_on (by omega) h]; have := ih (k + 1) (by omega); omega
theorem lnx_le (s : ByteArray) : ∀ (d k : Nat), d = s.size - k → k ≤ s.size → lnx s k ≤ s.size := by
 intro d
 induction d with
 | zero => intro k hd hk; rw [lnx_end (by omega)]; exact hk
 | succ d ih =>
  intro k hd hk
  cases h : (bt s k == 10) with
  | true => rw [lnx_at h]; exact hk
  | false => rw [lnx_on (by omega) h]; exact ih (k + 1) (by omega) (by omega)
theorem lnx_ge' (s : ByteArray) (k : Nat) : k ≤ lnx s k := lnx_ge s _ k rfl
theorem lnx_le' {s : ByteArray} {k : Nat} (h : k ≤ s.size) : lnx s k ≤ s.size := lnx_le s _ k rfl h
theorem lnx_bt (s : ByteArray) : ∀ (d k : Nat), d = s.size - k → lnx s k < s.size → (bt s (lnx s k) == 10) = true := by
 intro d
 induction d with
 | zero => intro k hd hk; rw [lnx_end (by omega)] at hk; omega
 | succ d ih =>
  intro k hd hk
  cases h : (bt s k == 10) with
  | true => rw [lnx_at h]; exact h
  | false => rw [lnx_on (by omega) h] at hk ⊢; exact ih (k + 1) (by omega) hk
def blk (s : ByteArray) (k : Nat) : Nat :=
 if h : k < s.size then (if isb (bt s k) then blk s (k + 1) else if (bt s k == 47) && (bt s (k + 1) == 47) then blk s (lnx s (k + 1)) else k) else k
termination_by s.size - k
decreasing_by
 ·omega
 ·have := lnx_ge' s (k + 1); omega
theorem blk_end {s : ByteArray} {k : Nat} (h : ¬ k < s.size) : blk s k = k := by rw [blk, dif_neg h]
theorem blk_b {s : ByteArray} {k : Nat} (h : k < s.size) (h2 : isb (bt s k) = true) : blk s k = blk s (k + 1) := by rw [blk, dif_pos h, h2]; rfl
theorem blk_c {s : ByteArray} {k : Nat} (h : k < s.size) (h2 : isb (bt s k) = false) (h3 : ((bt s k == 47) && (bt s (k + 1) == 47)) = true) : blk s k = blk s (lnx s (k + 1)) := by rw [blk, dif_pos h, h2, h3]; rfl
theorem blk_n {s : ByteArray} {k : Nat} (h2 : isb (bt s k) = false) (h3 : ((bt s k == 47) && (bt s (k + 1) == 47)) = false) : blk s k = k := by
 by_cases h : k < s.size
 ·rw [blk, dif_pos h, h2, h3]; rfl
 ·exact blk_end h
theorem by8_drop {s : ByteArray} {k : Nat} (h : k < s.size) : (by8 s).drop k = s[k] :: (by8 s).drop (k + 1) := by
 have h' : k < (by8 s).length := by rw [by8_len]; exact h
 rw [List.drop_eq_getElem_cons h']; rfl
theorem ixb_nl (s : ByteArray) : ∀ (d k : Nat), d = s.size - k → k ≤ s.size → Lib.indexByte ((by8 s).drop k) 10 = if lnx s k < s.size then ((lnx s k - k : Nat) : Int) else -1 := by
 intro d
 induction d with
 | zero =>
  intro k hd hk
  rw [lnx_end (by omega), if_neg (by omega), List.drop_of_length_le (by rw [by8_len]; omega)]; rfl
 | succ d ih =>
  intro k hd hk
  have hk2 : k < s.size := by omega
  rw [by8_drop hk2]
  have hb : (s[k] == 10) = (bt s k == 10) := by
   rw [bt_in hk2, Bool.eq_iff_iff, beq_iff_eq, beq_iff_eq]
   constructor
   ·intro h; rw [h]; rfl
   ·intro h
    apply UInt8.toNat_inj.1
    have : (s[k].toNat : Int) = ((10 : UInt8).toNat : Int) := h
    exact Int.ofNat_inj.1 this
  show (if (s[k] == 10) = true then (0 : Int) else if Lib.indexByte ((by8 s).drop (k + 1)) 10 == -1 then -1 else Lib.indexByte ((by8 s).drop (k + 1)) 10 + 1) = _
  rw [hb]
  cases h : (bt s k == 10) with
  | true => rw [lnx_at h, if_pos rfl, if_pos hk2, Nat.sub_self]; rfl
  | false =>
   have hi := ih (k + 1) (by omega) (by omega)
   have hg := lnx_ge' s (k + 1)
   rw [lnx_on hk2 h, hi, if_neg (by simp)]
   by_cases hn : lnx s (k + 1) < s.size
   ·rw [if_pos hn, if_pos hn, if_neg (by simp), show ((lnx s (k + 1) - k : Nat) : Int) = ((lnx s (k + 1) - (k + 1) : Nat) : Int) + 1 by omega]
   ·rw [if_neg hn, if_neg hn]; rfl
theorem ixb_n (s : ByteArray) (c : Int) (w : World) : Calls Tryd.prog 36 #[.string s, .int .u8 c] w fun e w' => e = .returned (.int .i64 (Lib.indexByte (by8 s) c.toNat.toUInt8)) ∧ Mo w w' :=
 (Tryd.strings_IndexByte s c w).mono fun _ _ ⟨h, e⟩ => ⟨h, e ▸ Mo.refl _⟩
theorem ixb_line {s : ByteArray} {k : Nat} {r : Int} (hk : k ≤ s.size) (hr : r = if lnx s k < s.size then ((lnx s k - k : Nat) : Int) else -1) (w : World) : Calls Tryd.prog 36 #[tx ((by8 s).drop k), .int .u8 10] w fun e w' => e = .returned (.int .i64 r) ∧ Mo w w' := by
 have h := ixb_n ⟨((by8 s).drop k).toArray⟩ 10 w
 have e : Lib.indexByte (by8 ⟨((by8 s).drop k).toArray⟩) (10 : Int).toNat.toUInt8 = r := by rw [hr, ← ixb_nl s _ k rfl hk]; rfl
 rw [e] at h; exact h
theorem addr1 {r : Int} {k : Nat} (h : r = (k : Int)) (hk : k ≤ 9223372036854775806) (x y : Operand) (w : World) : (do eqGuard .add 3 x y (.int .i64 r) (.int .i64 1); binOp .add 3 (.int .i64 r) (.int .i64 1)).run Tryd.prog w = .ok (.int .i64 ((k + 1 : Nat) : Int)) w := by
 subst h; exact add1r hk _ _ _
theorem addk {a b c : Nat} (h : a + b = c) (hc : c ≤ 9223372036854775807) (x y : Operand) (w : World) : (do eqGuard .add 3 x y (.int .i64 (a : Int)) (.int .i64 (b : Int)); binOp .add 3 (.int .i64 (a : Int)) (.int .i64 (b : Int))).run Tryd.prog w = .ok (.int .i64 ((c : Nat) : Int)) w := by
 have e : (do eqGuard .add 3 x y (.int .i64 (a : Int)) (.int .i64 (b : Int)); binOp .add 3 (.int .i64 (a : Int)) (.int .i64 (b : Int))).run Tryd.prog w = .ok (.int .i64 (IntKind.i64.wrap ((a : Int) + b))) w := by kernel_rfl
 have h2 : IntKind.i64.wrap ((a : Int) + b) = ((c : Nat) : Int) := by rw [IntKind.wrap_i64]; omega
 rw [e, h2]
theorem xg_blk {n : Nat} {l : List (Nat × Value)} {w : World} {Q : Exit → Act → World → Prop} {i j : Nat} (h : WX Q (.goto j) n l w) : WX (Exit.inBlock i Q) (.goto j) n l w := ⟨h.out⟩
def BI (s : ByteArray) (R : Nat) (w : World) (i m : Nat) (l : List (Nat × Value)) (w1 : World) : Prop :=
 ∃ k : Nat, look l 0 = .string s ∧ look l 1 = .int .i64 (k : Int) ∧ k ≤ s.size ∧ m = 2 * (s.size + 1 - k) + (1 - i) ∧ i ≤ 1 ∧ (i = 1 → (bt s k == 47) = true) ∧ blk s k = R ∧ Mo w w1
theorem blank_n (s : ByteArray) (a : Nat) (w : World) (hs : s.size ≤ maxLen) (ha : a ≤ s.size) : Calls Tryd.prog 14 #[.string s, .int .i64 ((a : Nat) : Int)] w fun e w' => e = .returned (.int .i64 ((blk s a : Nat) : Int)) ∧ Mo w w' := by
 unfold maxLen at hs
 refine w_enter 46 Tryd.func14 Tryd.ntmps14 rfl rfl ?_
 have M : Mo w w := Mo.refl _
 refine w_seq (w_reg ?_)
 refine wl_m (.const (.int .i64 (0))) (.int .i64 (0)) ?_
 refine w_nil (xn_then ?_)
 refine w_scope1 (BI s (blk s a) w) ?_ ?_ ?_
 ·rintro i m l w1 ⟨k, _, _, _, _, hi, _⟩
  match i, hi with
  | 0, _ => rfl
  | 1, _ => rfl
 ·skip
  have hB : blk s a = blk s a := rfl
  refine w_seq (w_seq (w_reg ?_))
  refine wl_m (.tmp 1) (.int .i64 ((a : Nat) : Int)) ?_
  refine wl_b .lss 3 (.tmp 6) (.const (.int .i64 (0))) (.int .i64 ((a : Nat) : Int)) (.int .i64 (0)) (.bool false) (lt3_run (r := false) (decide_eq_false (by omega)) _ _ _) ?_
  refine wl_m (.tmp 7) (.bool false) ?_
  refine wl_m (.tmp 1) (.int .i64 ((a : Nat) : Int)) ?_
  refine wl_m (.tmp 0) (.string s) ?_
  refine wl_val (.int .i64 ((s.size : Nat) : Int)) (len_s _ _ s (by exact rfl) _ _ _ _ _ _) rfl ?_
  refine wl_b .gtr 3 (.tmp 9) (.tmp 11) (.int .i64 ((a : Nat) : Int)) (.int .i64 ((s.size : Nat) : Int)) (.bool false) (gt3_run (r := false) (decide_eq_false (by omega)) _ _ _) ?_
  refine wl_pick (.tmp 8) (.const (.bool true)) (.tmp 12) false (.bool false) (fun _ => rfl) rfl rfl rfl ?_
  refine w_nil (xn_then (w_condF rfl (w_skip (xn_then (w_seq ?_)))))
  refine w_label ?_
  refine xn_then (w_seq (w_seq (w_reg ?_)))
  refine wl_m (.tmp 0) (.string s) ?_
  refine wl_m (.tmp 1) (.int .i64 ((a : Nat) : Int)) ?_
  refine wl_call 35 [(.tmp 15), (.tmp 16)] _ [.string s, .int .i64 ((a : Nat) : Int)] (.int .u8 (bt s (a))) rfl rfl (fun _ _ => by kernel_rfl) (lbyteAt_n s (a) _) rfl ?_
  intro w1 hq
  replace M := M.trans hq
  clear hq
  refine w_nil (xn_then (w_block (w_seq (w_seq ?_))))
  cases hf0 : (bt s (a) == 32) with
  | true =>
   refine w_reg ?_
   refine wl_b .eql 5 (.tmp 17) (.const (.int .u8 (32))) (.int .u8 (bt s (a))) (.int .u8 (32)) (.bool true) (eq5r hf0 _ _ _) ?_
   refine wl_m (.tmp 19) (.bool true) ?_
   refine w_nil (xn_then (w_condT rfl (w_skip (xn_then (w_condT rfl (w_seq (w_reg ?_)))))))
   refine wl_m (.tmp 1) (.int .i64 ((a : Nat) : Int)) ?_
   have hin := eq_in (by decide) hf0
   refine wl_b .add 3 (.tmp 23) (.const (.int .i64 (1))) (.int .i64 ((a : Nat) : Int)) (.int .i64 (1)) (.int .i64 ((a + 1 : Nat) : Int)) (add1r (k := a) (by omega) _ _ _) ?_
   refine wl_m (.tmp 24) (.int .i64 ((a + 1 : Nat) : Int)) ?_
   refine w_nil (xn_then ?_)
   refine w_goto ?_
   refine xg_blk ?_
   refine xg_then ?_
   exact xg_jump0 _ ⟨a + 1, rfl, rfl, by omega, rfl, by omega, (fun e => by cases e), (blk_b (by omega) (by simp [isb, hf0])).symm.trans hB, M⟩
  | false =>
   refine w_reg ?_
   refine wl_b .eql 5 (.tmp 17) (.const (.int .u8 (32))) (.int .u8 (bt s (a))) (.int .u8 (32)) (.bool false) (eq5r hf0 _ _ _) ?_
   refine wl_m (.tmp 19) (.bool false) ?_
   refine w_nil (xn_then (w_condF rfl (w_seq ?_)))
   cases hf1 : (bt s (a) == 9) with
   | true =>
    refine w_reg ?_
    refine wl_b .eql 5 (.tmp 17) (.const (.int .u8 (9))) (.int .u8 (bt s (a))) (.int .u8 (9)) (.bool true) (eq5r hf1 _ _ _) ?_
    refine wl_m (.tmp 20) (.bool true) ?_
    refine w_nil (xn_then (w_condT rfl (w_skip (xn_then (w_condT rfl (w_seq (w_reg ?_)))))))
    refine wl_m (.tmp 1) (.int .i64 ((a : Nat) : Int)) ?_
    have hin := eq_in (by decide) hf1
    refine wl_b .add 3 (.tmp 23) (.const (.int .i64 (1))) (.int .i64 ((a : Nat) : Int)) (.int .i64 (1)) (.int .i64 ((a + 1 : Nat) : Int)) (add1r (k := a) (by omega) _ _ _) ?_
    refine wl_m (.tmp 24) (.int .i64 ((a + 1 : Nat) : Int)) ?_
    refine w_nil (xn_then ?_)
    refine w_goto ?_
    refine xg_blk ?_
    refine xg_then ?_
    exact xg_jump0 _ ⟨a + 1, rfl, rfl, by omega, rfl, by omega, (fun e => by cases e), (blk_b (by omega) (by simp [isb, hf0, hf1])).symm.trans hB, M⟩
   | false =>
    refine w_reg ?_
    refine wl_b .eql 5 (.tmp 17) (.const (.int .u8 (9))) (.int .u8 (bt s (a))) (.int .u8 (9)) (.bool false) (eq5r hf1 _ _ _) ?_
    refine wl_m (.tmp 20) (.bool false) ?_
    refine w_nil (xn_then (w_condF rfl (w_seq ?_)))
    cases hf2 : (bt s (a) == 10) with
    | true =>
     refine w_reg ?_
     refine wl_b .eql 5 (.tmp 17) (.const (.int .u8 (10))) (.int .u8 (bt s (a))) (.int .u8 (10)) (.bool true) (eq5r hf2 _ _ _) ?_
     refine wl_m (.tmp 21) (.bool true) ?_
     refine w_nil (xn_then (w_condT rfl (w_skip (xn_then (w_condT rfl (w_seq (w_reg ?_)))))))
     refine wl_m (.tmp 1) (.int .i64 ((a : Nat) : Int)) ?_
     have hin := eq_in (by decide) hf2
     refine wl_b .add 3 (.tmp 23) (.const (.int .i64 (1))) (.int .i64 ((a : Nat) : Int)) (.int .i64 (1)) (.int .i64 ((a + 1 : Nat) : Int)) (add1r (k := a) (by omega) _ _ _) ?_
     refine wl_m (.tmp 24) (.int .i64 ((a + 1 : Nat) : Int)) ?_
     refine w_nil (xn_then ?_)
     refine w_goto ?_
     refine xg_blk ?_
     refine xg_then ?_
     exact xg_jump0 _ ⟨a + 1, rfl, rfl, by omega, rfl, by omega, (fun e => by cases e), (blk_b (by omega) (by simp [isb, hf0, hf1, hf2])).symm.trans hB, M⟩
    | false =>
     refine w_reg ?_
     refine wl_b .eql 5 (.tmp 17) (.const (.int .u8 (10))) (.int .u8 (bt s (a))) (.int .u8 (10)) (.bool false) (eq5r hf2 _ _ _) ?_
     refine wl_m (.tmp 21) (.bool false) ?_
     refine w_nil (xn_then (w_condF rfl ?_))
     cases hf3 : (bt s (a) == 13) with
     | true =>
      refine w_reg ?_
      refine wl_b .eql 5 (.tmp 17) (.const (.int .u8 (13))) (.int .u8 (bt s (a))) (.int .u8 (13)) (.bool true) (eq5r hf3 _ _ _) ?_
      refine wl_m (.tmp 22) (.bool true) ?_
      refine w_nil (xn_then (w_condT rfl (w_seq (w_reg ?_))))
      refine wl_m (.tmp 1) (.int .i64 ((a : Nat) : Int)) ?_
      have hin := eq_in (by decide) hf3
      refine wl_b .add 3 (.tmp 23) (.const (.int .i64 (1))) (.int .i64 ((a : Nat) : Int)) (.int .i64 (1)) (.int .i64 ((a + 1 : Nat) : Int)) (add1r (k := a) (by omega) _ _ _) ?_
      refine wl_m (.tmp 24) (.int .i64 ((a + 1 : Nat) : Int)) ?_
      refine w_nil (xn_then ?_)
      refine w_goto ?_
      refine xg_blk ?_
      refine xg_then ?_
      exact xg_jump0 _ ⟨a + 1, rfl, rfl, by omega, rfl, by omega, (fun e => by cases e), (blk_b (by omega) (by simp [isb, hf0, hf1, hf2, hf3])).symm.trans hB, M⟩
     | false =>
      refine w_reg ?_
      refine wl_b .eql 5 (.tmp 17) (.const (.int .u8 (13))) (.int .u8 (bt s (a))) (.int .u8 (13)) (.bool false) (eq5r hf3 _ _ _) ?_
      refine wl_m (.tmp 22) (.bool false) ?_
      refine w_nil (xn_then (w_condF rfl (w_seq ?_)))
      cases hf4 : (bt s (a) == 47) with
      | true =>
       refine w_reg ?_
       refine wl_b .eql 5 (.tmp 17) (.const (.int .u8 (47))) (.int .u8 (bt s (a))) (.int .u8 (47)) (.bool true) (eq5r hf4 _ _ _) ?_
       refine wl_m (.tmp 26) (.bool true) ?_
       refine w_nil (xn_then (w_condT rfl ?_))
       refine w_goto ?_
       refine xg_blk ?_
       refine xg_then ?_
       exact xg_jump0 _ ⟨a, rfl, rfl, by omega, rfl, by omega, fun _ => hf4, hB, M⟩
      | false =>
       refine w_reg ?_
       refine wl_b .eql 5 (.tmp 17) (.const (.int .u8 (47))) (.int .u8 (bt s (a))) (.int .u8 (47)) (.bool false) (eq5r hf4 _ _ _) ?_
       refine wl_m (.tmp 26) (.bool false) ?_
       refine w_nil (xn_then (w_condF rfl (w_skip (xn_blk (xn_then (w_seq (w_seq (w_reg ?_))))))))
       refine wl_m (.tmp 1) (.int .i64 ((a : Nat) : Int)) ?_
       refine wl_m (.tmp 27) (.int .i64 ((a : Nat) : Int)) ?_
       refine w_nil (xn_then (w_ret (xr_then ?_)))
       refine xr_jumps ?_
       exact w_ret1 _ (.int .i64 ((a : Nat) : Int)) rfl rfl ⟨by rw [← hB, blk_n (by simp [isb, hf0, hf1, hf2, hf3]) (by rw [hf4]; rfl)], M⟩
 ·clear M
  rintro i m l wl ⟨k, e0, e1, hk, hm, hi, hp, hB, M⟩
  subst hm
  match i, hi, hp with
  | 0, _, _ =>
   refine w_seq (w_skip (xn_then (w_seq (w_seq (w_reg ?_)))))
   refine wl_mv (.tmp 0) (.string s) (fun _ => rfl) e0 rfl ?_
   refine wl_mv (.tmp 1) (.int .i64 ((k : Nat) : Int)) (fun _ => rfl) e1 rfl ?_
   refine wl_call 35 [(.tmp 15), (.tmp 16)] _ [.string s, .int .i64 ((k : Nat) : Int)] (.int .u8 (bt s (k))) rfl rfl (fun _ _ => by kernel_rfl) (lbyteAt_n s (k) _) rfl ?_
   intro w11 hq
   replace M := M.trans hq
   clear hq
   refine w_nil (xn_then (w_block (w_seq (w_seq ?_))))
   cases hf0 : (bt s (k) == 32) with
   | true =>
    refine w_reg ?_
    refine wl_b .eql 5 (.tmp 17) (.const (.int .u8 (32))) (.int .u8 (bt s (k))) (.int .u8 (32)) (.bool true) (eq5r hf0 _ _ _) ?_
    refine wl_m (.tmp 19) (.bool true) ?_
    refine w_nil (xn_then (w_condT rfl (w_skip (xn_then (w_condT rfl (w_seq (w_reg ?_)))))))
    refine wl_mv (.tmp 1) (.int .i64 ((k : Nat) : Int)) (fun _ => rfl) e1 rfl ?_
    have hin := eq_in (by decide) hf0
    refine wl_b .add 3 (.tmp 23) (.const (.int .i64 (1))) (.int .i64 ((k : Nat) : Int)) (.int .i64 (1)) (.int .i64 ((k + 1 : Nat) : Int)) (add1r (k := k) (by omega) _ _ _) ?_
    refine wl_m (.tmp 24) (.int .i64 ((k + 1 : Nat) : Int)) ?_
    refine w_nil (xn_then ?_)
    refine w_goto ?_
    refine xg_blk ?_
    refine xg_then ?_
    exact xg_jump (2 * (s.size + 1 - (k + 1)) + (1 - 0)) (by omega) ⟨k + 1, e0, rfl, by omega, rfl, by omega, (fun e => by cases e), (blk_b (by omega) (by simp [isb, hf0])).symm.trans hB, M⟩
   | false =>
    refine w_reg ?_
    refine wl_b .eql 5 (.tmp 17) (.const (.int .u8 (32))) (.int .u8 (bt s (k))) (.int .u8 (32)) (.bool false) (eq5r hf0 _ _ _) ?_
    refine wl_m (.tmp 19) (.bool false) ?_
    refine w_nil (xn_then (w_condF rfl (w_seq ?_)))
    cases hf1 : (bt s (k) == 9) with
    | true =>
     refine w_reg ?_
     refine wl_b .eql 5 (.tmp 17) (.const (.int .u8 (9))) (.int .u8 (bt s (k))) (.int .u8 (9)) (.bool true) (eq5r hf1 _ _ _) ?_
     refine wl_m (.tmp 20) (.bool true) ?_
     refine w_nil (xn_then (w_condT rfl (w_skip (xn_then (w_condT rfl (w_seq (w_reg ?_)))))))
     refine wl_mv (.tmp 1) (.int .i64 ((k : Nat) : Int)) (fun _ => rfl) e1 rfl ?_
     have hin := eq_in (by decide) hf1
     refine wl_b .add 3 (.tmp 23) (.const (.int .i64 (1))) (.int .i64 ((k : Nat) : Int)) (.int .i64 (1)) (.int .i64 ((k + 1 : Nat) : Int)) (add1r (k := k) (by omega) _ _ _) ?_
     refine wl_m (.tmp 24) (.int .i64 ((k + 1 : Nat) : Int)) ?_
     refine w_nil (xn_then ?_)
     refine w_goto ?_
     refine xg_blk ?_
     refine xg_then ?_
     exact xg_jump (2 * (s.size + 1 - (k + 1)) + (1 - 0)) (by omega) ⟨k + 1, e0, rfl, by omega, rfl, by omega, (fun e => by cases e), (blk_b (by omega) (by simp [isb, hf0, hf1])).symm.trans hB, M⟩
    | false =>
     refine w_reg ?_
     refine wl_b .eql 5 (.tmp 17) (.const (.int .u8 (9))) (.int .u8 (bt s (k))) (.int .u8 (9)) (.bool false) (eq5r hf1 _ _ _) ?_
     refine wl_m (.tmp 20) (.bool false) ?_
     refine w_nil (xn_then (w_condF rfl (w_seq ?_)))
     cases hf2 : (bt s (k) == 10) with
     | true =>
      refine w_reg ?_
      refine wl_b .eql 5 (.tmp 17) (.const (.int .u8 (10))) (.int .u8 (bt s (k))) (.int .u8 (10)) (.bool true) (eq5r hf2 _ _ _) ?_
      refine wl_m (.tmp 21) (.bool true) ?_
      refine w_nil (xn_then (w_condT rfl (w_skip (xn_then (w_condT rfl (w_seq (w_reg ?_)))))))
      refine wl_mv (.tmp 1) (.int .i64 ((k : Nat) : Int)) (fun _ => rfl) e1 rfl ?_
      have hin := eq_in (by decide) hf2
      refine wl_b .add 3 (.tmp 23) (.const (.int .i64 (1))) (.int .i64 ((k : Nat) : Int)) (.int .i64 (1)) (.int .i64 ((k + 1 : Nat) : Int)) (add1r (k := k) (by omega) _ _ _) ?_
      refine wl_m (.tmp 24) (.int .i64 ((k + 1 : Nat) : Int)) ?_
      refine w_nil (xn_then ?_)
      refine w_goto ?_
      refine xg_blk ?_
      refine xg_then ?_
      exact xg_jump (2 * (s.size + 1 - (k + 1)) + (1 - 0)) (by omega) ⟨k + 1, e0, rfl, by omega, rfl, by omega, (fun e => by cases e), (blk_b (by omega) (by simp [isb, hf0, hf1, hf2])).symm.trans hB, M⟩
     | false =>
      refine w_reg ?_
      refine wl_b .eql 5 (.tmp 17) (.const (.int .u8 (10))) (.int .u8 (bt s (k))) (.int .u8 (10)) (.bool false) (eq5r hf2 _ _ _) ?_
      refine wl_m (.tmp 21) (.bool false) ?_
      refine w_nil (xn_then (w_condF rfl ?_))
      cases hf3 : (bt s (k) == 13) with
      | true =>
       refine w_reg ?_
       refine wl_b .eql 5 (.tmp 17) (.const (.int .u8 (13))) (.int .u8 (bt s (k))) (.int .u8 (13)) (.bool true) (eq5r hf3 _ _ _) ?_
       refine wl_m (.tmp 22) (.bool true) ?_
       refine w_nil (xn_then (w_condT rfl (w_seq (w_reg ?_))))
       refine wl_mv (.tmp 1) (.int .i64 ((k : Nat) : Int)) (fun _ => rfl) e1 rfl ?_
       have hin := eq_in (by decide) hf3
       refine wl_b .add 3 (.tmp 23) (.const (.int .i64 (1))) (.int .i64 ((k : Nat) : Int)) (.int .i64 (1)) (.int .i64 ((k + 1 : Nat) : Int)) (add1r (k := k) (by omega) _ _ _) ?_
       refine wl_m (.tmp 24) (.int .i64 ((k + 1 : Nat) : Int)) ?_
       refine w_nil (xn_then ?_)
       refine w_goto ?_
       refine xg_blk ?_
       refine xg_then ?_
       exact xg_jump (2 * (s.size + 1 - (k + 1)) + (1 - 0)) (by omega) ⟨k + 1, e0, rfl, by omega, rfl, by omega, (fun e => by cases e), (blk_b (by omega) (by simp [isb, hf0, hf1, hf2, hf3])).symm.trans hB, M⟩
      | false =>
       refine w_reg ?_
       refine wl_b .eql 5 (.tmp 17) (.const (.int .u8 (13))) (.int .u8 (bt s (k))) (.int .u8 (13)) (.bool false) (eq5r hf3 _ _ _) ?_
       refine wl_m (.tmp 22) (.bool false) ?_
       refine w_nil (xn_then (w_condF rfl (w_seq ?_)))
       cases hf4 : (bt s (k) == 47) with
       | true =>
        refine w_reg ?_
        refine wl_b .eql 5 (.tmp 17) (.const (.int .u8 (47))) (.int .u8 (bt s (k))) (.int .u8 (47)) (.bool true) (eq5r hf4 _ _ _) ?_
        refine wl_m (.tmp 26) (.bool true) ?_
        refine w_nil (xn_then (w_condT rfl ?_))
        refine w_goto ?_
        refine xg_blk ?_
        refine xg_then ?_
        exact xg_jump (2 * (s.size + 1 - (k)) + (1 - 1)) (by omega) ⟨k, e0, e1, by omega, rfl, by omega, fun _ => hf4, hB, M⟩
       | false =>
        refine w_reg ?_
        refine wl_b .eql 5 (.tmp 17) (.const (.int .u8 (47))) (.int .u8 (bt s (k))) (.int .u8 (47)) (.bool false) (eq5r hf4 _ _ _) ?_
        refine wl_m (.tmp 26) (.bool false) ?_
        refine w_nil (xn_then (w_condF rfl (w_skip (xn_blk (xn_then (w_seq (w_seq (w_reg ?_))))))))
        refine wl_mv (.tmp 1) (.int .i64 ((k : Nat) : Int)) (fun _ => rfl) e1 rfl ?_
        refine wl_m (.tmp 27) (.int .i64 ((k : Nat) : Int)) ?_
        refine w_nil (xn_then (w_ret (xr_then ?_)))
        refine xr_jumps ?_
        exact w_ret1 _ (.int .i64 ((k : Nat) : Int)) rfl rfl ⟨by rw [← hB, blk_n (by simp [isb, hf0, hf1, hf2, hf3]) (by rw [hf4]; rfl)], M⟩
  | 1, _, hp =>
   have h47 := hp rfl
   have hin := eq_in (by decide) h47
   have hnb : isb (bt s k) = false := by rw [eq_of_beq h47]; rfl
   have hn10 : (bt s k == 10) = false := by rw [eq_of_beq h47]; rfl
   have hnl := lnx_on hin hn10
   have hge := lnx_ge' s (k + 1)
   have hle := lnx_le' (s := s) (k := k) (by omega)
   obtain ⟨r, hr⟩ : ∃ r, r = if lnx s k < s.size then ((lnx s k - k : Nat) : Int) else -1 := ⟨_, rfl⟩
   refine w_seq (w_skip (xn_then (w_seq (w_seq ?_))))
   cases hf0 : (bt s (k + 1) == 47) with
   | true =>
    refine w_reg ?_
    refine wl_mv (.tmp 0) (.string s) (fun _ => rfl) e0 rfl ?_
    refine wl_mv (.tmp 1) (.int .i64 ((k : Nat) : Int)) (fun _ => rfl) e1 rfl ?_
    refine wl_b .add 3 (.tmp 29) (.const (.int .i64 (1))) (.int .i64 ((k : Nat) : Int)) (.int .i64 (1)) (.int .i64 ((k + 1 : Nat) : Int)) (add1r (k := k) (by omega) _ _ _) ?_
    refine wl_call 35 [(.tmp 28), (.tmp 30)] _ [.string s, .int .i64 ((k + 1 : Nat) : Int)] (.int .u8 (bt s (k + 1))) rfl rfl (fun _ _ => by kernel_rfl) (lbyteAt_n s (k + 1) _) rfl ?_
    intro w11 hq
    replace M := M.trans hq
    clear hq
    refine wl_b .neq 5 (.tmp 31) (.const (.int .u8 (47))) (.int .u8 (bt s (k + 1))) (.int .u8 (47)) (.bool false) (ne5r hf0 _ _ _) ?_
    refine w_nil (xn_then (w_condF rfl (w_skip (xn_then (w_seq (w_reg ?_))))))
    refine wl_mv (.tmp 0) (.string s) (fun _ => rfl) e0 rfl ?_
    refine wl_mv (.tmp 1) (.int .i64 ((k : Nat) : Int)) (fun _ => rfl) e1 rfl ?_
    refine wl_val (tx ((by8 s).drop k)) (lo_run _ _ _ (by8 s) k (by exact rfl) (by exact rfl) (by rw [by8_len]; omega) _ _ _ _ _ _) rfl ?_
    refine wl_call 36 [(.tmp 36), (.const (.int .u8 (10)))] _ [tx ((by8 s).drop k), .int .u8 (10)] (.int .i64 (r)) rfl rfl (fun _ _ => by kernel_rfl) (ixb_line (s := s) (k := k) (r := r) (by omega) hr _) rfl ?_
    intro w12 hq
    replace M := M.trans hq
    clear hq
    refine wl_m (.tmp 37) (.int .i64 (r)) ?_
    refine w_nil (xn_then (w_seq (w_seq ?_)))
    cases hf1 : decide (r < 0) with
    | true =>
     have hf1p := of_decide_eq_true hf1
     refine w_reg ?_
     refine wl_m (.tmp 5) (.int .i64 (r)) ?_
     refine wl_b .lss 3 (.tmp 38) (.const (.int .i64 (0))) (.int .i64 (r)) (.int .i64 (0)) (.bool true) (lt3_run hf1 _ _ _) ?_
     refine w_nil (xn_then (w_condT rfl (w_seq (w_reg ?_))))
     refine wl_mv (.tmp 0) (.string s) (fun _ => rfl) e0 rfl ?_
     refine wl_val (.int .i64 ((s.size : Nat) : Int)) (len_s _ _ s (by exact rfl) _ _ _ _ _ _) rfl ?_
     refine wl_m (.tmp 41) (.int .i64 ((s.size : Nat) : Int)) ?_
     refine w_nil (xn_then (w_ret (xr_then ?_)))
     refine xr_jumps ?_
     have hstep : blk s k = blk s (lnx s k) := by rw [hnl]; exact blk_c hin hnb (by rw [h47, hf0]; rfl)
     exact w_ret1 _ (.int .i64 ((s.size : Nat) : Int)) rfl rfl ⟨by rw [← hB, hstep, show lnx s k = s.size from (by rcases Nat.lt_or_ge (lnx s k) s.size with h | h; (rw [if_pos h] at hr; omega); omega), blk_end (by omega)], M⟩
    | false =>
     have hf1p := of_decide_eq_false hf1
     refine w_reg ?_
     refine wl_m (.tmp 5) (.int .i64 (r)) ?_
     refine wl_b .lss 3 (.tmp 38) (.const (.int .i64 (0))) (.int .i64 (r)) (.int .i64 (0)) (.bool false) (lt3_run hf1 _ _ _) ?_
     refine w_nil (xn_then (w_condF rfl (w_skip (xn_then (w_seq (w_reg ?_))))))
     refine wl_mv (.tmp 1) (.int .i64 ((k : Nat) : Int)) (fun _ => rfl) e1 rfl ?_
     refine wl_m (.tmp 5) (.int .i64 (r)) ?_
     have hnlt : lnx s k < s.size := by rcases Nat.lt_or_ge (lnx s k) s.size with h | h; (exact h); (rw [if_neg (by omega)] at hr; omega)
     have hrn : r = ((lnx s k - k : Nat) : Int) := by rw [hr, if_pos hnlt]
     refine wl_b .add 3 (.tmp 43) (.const (.int .i64 (1))) (.int .i64 (r)) (.int .i64 (1)) (.int .i64 ((lnx s k - k + 1 : Nat) : Int)) (addr1 hrn (by omega) _ _ _) ?_
     refine wl_b .add 3 (.tmp 42) (.tmp 44) (.int .i64 ((k : Nat) : Int)) (.int .i64 ((lnx s k - k + 1 : Nat) : Int)) (.int .i64 ((lnx s k + 1 : Nat) : Int)) (addk (by omega) (by omega) _ _ _) ?_
     refine wl_m (.tmp 45) (.int .i64 ((lnx s k + 1 : Nat) : Int)) ?_
     refine w_nil (xn_then ?_)
     refine w_goto ?_
     have hstep : blk s k = blk s (lnx s k) := by rw [hnl]; exact blk_c hin hnb (by rw [h47, hf0]; rfl)
     exact xg_jump (2 * (s.size + 1 - (lnx s k + 1)) + (1 - 0)) (by omega) ⟨lnx s k + 1, e0, rfl, by omega, rfl, by omega, (fun e => by cases e), (blk_b (by omega) (by have h := lnx_bt s _ k rfl (by omega); simp [isb, h])).symm.trans (hstep.symm.trans hB), M⟩
   | false =>
    refine w_reg ?_
    refine wl_mv (.tmp 0) (.string s) (fun _ => rfl) e0 rfl ?_
    refine wl_mv (.tmp 1) (.int .i64 ((k : Nat) : Int)) (fun _ => rfl) e1 rfl ?_
    refine wl_b .add 3 (.tmp 29) (.const (.int .i64 (1))) (.int .i64 ((k : Nat) : Int)) (.int .i64 (1)) (.int .i64 ((k + 1 : Nat) : Int)) (add1r (k := k) (by omega) _ _ _) ?_
    refine wl_call 35 [(.tmp 28), (.tmp 30)] _ [.string s, .int .i64 ((k + 1 : Nat) : Int)] (.int .u8 (bt s (k + 1))) rfl rfl (fun _ _ => by kernel_rfl) (lbyteAt_n s (k + 1) _) rfl ?_
    intro w11 hq
    replace M := M.trans hq
    clear hq
    refine wl_b .neq 5 (.tmp 31) (.const (.int .u8 (47))) (.int .u8 (bt s (k + 1))) (.int .u8 (47)) (.bool true) (ne5r hf0 _ _ _) ?_
    refine w_nil (xn_then (w_condT rfl (w_seq (w_reg ?_))))
    refine wl_mv (.tmp 1) (.int .i64 ((k : Nat) : Int)) (fun _ => rfl) e1 rfl ?_
    refine wl_m (.tmp 33) (.int .i64 ((k : Nat) : Int)) ?_
    refine w_nil (xn_then (w_ret (xr_then ?_)))
    refine xr_jumps ?_
    exact w_ret1 _ (.int .i64 ((k : Nat) : Int)) rfl rfl ⟨by rw [← hB, blk_n hnb (by rw [h47, hf0]; rfl)], M⟩
end Go.Proofs.YthgknegocfhdbaaDoor
/-
 Blank at any place, the document's Blank; Name and the document's; Symbol.
-/
namespace Go.Proofs.YthgknegocfhdbaaDoor
open Go.RowKit
theorem eq9 {a b : ByteArray} {r : Bool} (h : (a.toList == b.toList) = r) (x y : Operand) (w : World) : (do eqGuard .eql 9 x y (.string a) (.string b); binOp .eql 9 (.string a) (.string b)).run Tryd.prog w = .ok (.bool r) w := by
 subst h; simp [go_sem]
theorem eqz9 {s : ByteArray} {r : Bool} (h : decide (s.size = 0) = r) (x y : Operand) (w : World) : (do eqGuard .eql 9 x y (.string s) (.string ⟨#[]⟩); binOp .eql 9 (.string s) (.string ⟨#[]⟩)).run Tryd.prog w = .ok (.bool r) w := by
 refine eq9 (r := r) ?_ _ _ _
 rw [← h, Lib.toList_data, Lib.toList_data, Bool.eq_iff_iff, beq_iff_eq, decide_eq_true_iff, ← by8_len]
 exact List.length_eq_zero_iff.symm
theorem idx0z {s : ByteArray} (h : 0 < s.size) (w : World) : (Instr.index 9 (.string s) (.int .i64 (0))).run Tryd.prog w = .ok (.int .u8 (bt s (0))) w := idx_b (k := 0) h w
theorem ltr_c {f : Nat} {c : Int} {r : Bool} (h : ltr c = r) (hf : ∀ (c : Int) (w : World), Calls Tryd.prog f #[.int .u8 c] w fun e w' => e = .returned (.bool (ltr c)) ∧ Mo w w') (w : World) : Calls Tryd.prog f #[.int .u8 c] w fun e w' => e = .returned (.bool r) ∧ Mo w w' := h ▸ hf c w
theorem dgt_c {f : Nat} {c : Int} {r : Bool} (h : dgt c = r) (hf : ∀ (c : Int) (w : World), Calls Tryd.prog f #[.int .u8 c] w fun e w' => e = .returned (.bool (dgt c)) ∧ Mo w w') (w : World) : Calls Tryd.prog f #[.int .u8 c] w fun e w' => e = .returned (.bool r) ∧ Mo w w' := h ▸ hf c w
def nmA (s : ByteArray) (k : Nat) : Bool := if h : k < s.size then (ltr (bt s k) || dgt (bt s k)) && nmA s (k + 1) else true
termination_by s.size - k
decreasing_by omega
theorem nmA_in {s : ByteArray} {k : Nat} (h : k < s.size) : nmA s k = ((ltr (bt s k) || dgt (bt s k)) && nmA s (k + 1)) := by rw [nmA, dif_pos h]
theorem nmA_end {s : ByteArray} {k : Nat} (h : ¬ k < s.size) : nmA s k = true := by rw [nmA, dif_neg h]
def nam (s : ByteArray) : Bool := !decide (s.size = 0) && !decide (32 < s.size) && ltr (bt s 0) && nmA s 0
theorem name_n (s : ByteArray) (w : World) (hs : s.size ≤ maxLen) : Calls Tryd.prog 16 #[.string s] w fun e w' => e = .returned (.bool (nam s)) ∧ Mo w w' := by
 unfold maxLen at hs
 refine w_enter 35 Tryd.func16 Tryd.ntmps16 rfl rfl ?_
 have M : Mo w w := Mo.refl _
 refine w_seq (w_reg ?_)
 refine wl_m (.const (.bool false)) (.bool false) ?_
 refine w_nil (xn_then (w_seq (w_seq ?_)))
 cases hf0 : decide (s.size = 0) with
 | true =>
  have hf0p := of_decide_eq_true hf0
  refine w_reg ?_
  refine wl_m (.tmp 0) (.string s) ?_
  refine wl_b .eql 9 (.tmp 4) (.const (.string ⟨#[]⟩)) (.string s) (.string ⟨#[]⟩) (.bool true) (eqz9 hf0 _ _ _) ?_
  refine wl_m (.tmp 5) (.bool true) ?_
  refine wl_skip rfl (wl_skip rfl (wl_skip rfl ?_))
  refine wl_pick (.tmp 6) (.const (.bool true)) (.tmp 9) true (.bool true) (fun _ => rfl) rfl rfl rfl ?_
  refine wl_m (.tmp 10) (.bool true) ?_
  refine wl_skip rfl (wl_skip rfl (wl_skip rfl (wl_skip rfl ?_)))
  refine wl_pick (.tmp 11) (.const (.bool true)) (.tmp 15) true (.bool true) (fun _ => rfl) rfl rfl rfl ?_
  refine w_nil (xn_then (w_condT rfl (w_seq (w_reg ?_))))
  refine wl_m (.const (.bool false)) (.bool false) ?_
  refine w_nil (xn_then (w_ret (xr_then ?_)))
  exact w_ret1 _ (.bool false) rfl rfl ⟨by unfold nam; rw [hf0]; rfl, M⟩
 | false =>
  have hf0p := of_decide_eq_false hf0
  cases hf1 : decide (32 < s.size) with
  | true =>
   have hf1p := of_decide_eq_true hf1
   refine w_reg ?_
   refine wl_m (.tmp 0) (.string s) ?_
   refine wl_b .eql 9 (.tmp 4) (.const (.string ⟨#[]⟩)) (.string s) (.string ⟨#[]⟩) (.bool false) (eqz9 hf0 _ _ _) ?_
   refine wl_m (.tmp 5) (.bool false) ?_
   refine wl_m (.tmp 0) (.string s) ?_
   refine wl_val (.int .i64 ((s.size : Nat) : Int)) (len_s _ _ s (by exact rfl) _ _ _ _ _ _) rfl ?_
   refine wl_b .gtr 3 (.tmp 8) (.const (.int .i64 (32))) (.int .i64 ((s.size : Nat) : Int)) (.int .i64 (32)) (.bool true) (gtN hf1 _ _ _) ?_
   refine wl_pick (.tmp 6) (.const (.bool true)) (.tmp 9) false (.bool true) (fun _ => rfl) rfl rfl rfl ?_
   refine wl_m (.tmp 10) (.bool true) ?_
   refine wl_skip rfl (wl_skip rfl (wl_skip rfl (wl_skip rfl ?_)))
   refine wl_pick (.tmp 11) (.const (.bool true)) (.tmp 15) true (.bool true) (fun _ => rfl) rfl rfl rfl ?_
   refine w_nil (xn_then (w_condT rfl (w_seq (w_reg ?_))))
   refine wl_m (.const (.bool false)) (.bool false) ?_
   refine w_nil (xn_then (w_ret (xr_then ?_)))
   exact w_ret1 _ (.bool false) rfl rfl ⟨by unfold nam; rw [hf0, hf1]; rfl, M⟩
  | false =>
   have hf1p := of_decide_eq_false hf1
   cases hf2 : ltr (bt s (0)) with
   | true =>
    refine w_reg ?_
    refine wl_m (.tmp 0) (.string s) ?_
    refine wl_b .eql 9 (.tmp 4) (.const (.string ⟨#[]⟩)) (.string s) (.string ⟨#[]⟩) (.bool false) (eqz9 hf0 _ _ _) ?_
    refine wl_m (.tmp 5) (.bool false) ?_
    refine wl_m (.tmp 0) (.string s) ?_
    refine wl_val (.int .i64 ((s.size : Nat) : Int)) (len_s _ _ s (by exact rfl) _ _ _ _ _ _) rfl ?_
    refine wl_b .gtr 3 (.tmp 8) (.const (.int .i64 (32))) (.int .i64 ((s.size : Nat) : Int)) (.int .i64 (32)) (.bool false) (gtN hf1 _ _ _) ?_
    refine wl_pick (.tmp 6) (.const (.bool true)) (.tmp 9) false (.bool false) (fun _ => rfl) rfl rfl rfl ?_
    refine wl_m (.tmp 10) (.bool false) ?_
    refine wl_m (.tmp 0) (.string s) ?_
    refine wl_bin (fun x y => Instr.index 9 x y) (.tmp 12) (.const (.int .i64 (0))) (.string s) (.int .i64 (0)) (.int .u8 (bt s (0))) (fun _ => rfl) rfl rfl (idx0z (by omega) _) rfl ?_
    refine wl_call 37 [(.tmp 13)] _ [.int .u8 (bt s (0))] (.bool true) rfl rfl (fun _ _ => by kernel_rfl) (ltr_c hf2 isLetter_n _) rfl ?_
    intro w1 hq
    replace M := M.trans hq
    clear hq
    refine wl_un (fun v => Op.unary .not v) (.tmp 14) (.bool true) (.bool false) (fun _ => rfl) rfl (by kernel_rfl) rfl ?_
    refine wl_pick (.tmp 11) (.const (.bool true)) (.tmp 15) false (.bool false) (fun _ => rfl) rfl rfl rfl ?_
    refine w_nil (xn_then (w_condF rfl (w_skip (xn_then (w_seq (w_seq (w_reg ?_)))))))
    refine wl_m (.tmp 0) (.string s) ?_
    refine wl_val (.int .i64 ((s.size : Nat) : Int)) (len_s _ _ s (by exact rfl) _ _ _ _ _ _) rfl ?_
    refine wl_m (.const (.int .i64 (0))) (.int .i64 (0)) ?_
    refine w_nil (xn_then (w_block ?_))
    have hnam : nam s = nmA s 0 := by unfold nam; rw [hf0, hf1, hf2]; rfl
    refine w_loop (fun m l w1 => ∃ j : Nat, m = s.size - j ∧ look l 0 = .string s ∧ look l 19 = .int .i64 ((j : Nat) : Int) ∧ look l 18 = .int .i64 ((s.size : Nat) : Int) ∧ j ≤ s.size ∧ nmA s j = nam s ∧ Mo w w1) _ ⟨0, rfl, rfl, rfl, rfl, by omega, hnam.symm, M⟩ ?_
    clear M
    rintro m l wl ⟨j, rfl, e0, e3, e18, hj, hN, M⟩
    refine w_seq ?_
    cases hf30 : decide (j < s.size) with
    | true =>
     have hf30p := of_decide_eq_true hf30
     refine w_reg ?_
     refine wl_bin (fun x y => do eqGuard .lss 3 (.tmp 19) (.tmp 18) x y; binOp .lss 3 x y) (.tmp 19) (.tmp 18) (.int .i64 ((j : Nat) : Int)) (.int .i64 ((s.size : Nat) : Int)) (.bool true) (fun _ => rfl) e3 e18 (ltN hf30 _ _ _) rfl ?_
     refine w_nil (xn_then (w_seq (w_condT rfl (w_skip (xn_then (w_seq (w_block (w_seq (w_reg ?_)))))))))
     refine wl_mv (.tmp 19) (.int .i64 ((j : Nat) : Int)) (fun _ => rfl) e3 rfl ?_
     refine wl_m (.tmp 21) (.int .i64 ((j : Nat) : Int)) ?_
     refine w_nil (xn_then (w_seq ?_))
     cases hf31 : ltr (bt s (j)) with
     | true =>
      refine w_reg ?_
      refine wl_mv (.tmp 0) (.string s) (fun _ => rfl) e0 rfl ?_
      refine wl_m (.tmp 3) (.int .i64 ((j : Nat) : Int)) ?_
      refine wl_bin (fun x y => Instr.index 9 x y) (.tmp 22) (.tmp 23) (.string s) (.int .i64 ((j : Nat) : Int)) (.int .u8 (bt s (j))) (fun _ => rfl) rfl rfl (idx_b (by omega) _) rfl ?_
      refine wl_call 37 [(.tmp 24)] _ [.int .u8 (bt s (j))] (.bool true) rfl rfl (fun _ _ => by kernel_rfl) (ltr_c hf31 isLetter_n _) rfl ?_
      intro w31 hq
      replace M := M.trans hq
      clear hq
      refine wl_un (fun v => Op.unary .not v) (.tmp 25) (.bool true) (.bool false) (fun _ => rfl) rfl (by kernel_rfl) rfl ?_
      refine wl_m (.tmp 26) (.bool false) ?_
      refine wl_skip rfl (wl_skip rfl (wl_skip rfl (wl_skip rfl (wl_skip rfl ?_))))
      refine wl_pick (.tmp 27) (.tmp 32) (.const (.bool false)) false (.bool false) (fun _ => rfl) rfl rfl rfl ?_
      refine w_nil (xn_then (w_condF rfl (w_skip (xn_blk (xn_then (w_reg ?_))))))
      refine wl_bin (fun x y => do eqGuard .add 3 (.tmp 19) (.const (.int .i64 (1))) x y; binOp .add 3 x y) (.tmp 19) (.const (.int .i64 (1))) (.int .i64 ((j : Nat) : Int)) (.int .i64 (1)) (.int .i64 ((j + 1 : Nat) : Int)) (fun _ => rfl) e3 rfl (add1r (k := j) (by omega) _ _ _) rfl ?_
      refine wl_m (.tmp 34) (.int .i64 ((j + 1 : Nat) : Int)) ?_
      refine w_nil ?_
      exact xn_loop (s.size - (j + 1)) (by omega) ⟨j + 1, rfl, e0, rfl, e18, by omega, by rw [nmA_in (by omega)] at hN; rw [← hN]; simp [hf31], M⟩
     | false =>
      cases hf32 : dgt (bt s (j)) with
      | true =>
       refine w_reg ?_
       refine wl_mv (.tmp 0) (.string s) (fun _ => rfl) e0 rfl ?_
       refine wl_m (.tmp 3) (.int .i64 ((j : Nat) : Int)) ?_
       refine wl_bin (fun x y => Instr.index 9 x y) (.tmp 22) (.tmp 23) (.string s) (.int .i64 ((j : Nat) : Int)) (.int .u8 (bt s (j))) (fun _ => rfl) rfl rfl (idx_b (by omega) _) rfl ?_
       refine wl_call 37 [(.tmp 24)] _ [.int .u8 (bt s (j))] (.bool false) rfl rfl (fun _ _ => by kernel_rfl) (ltr_c hf31 isLetter_n _) rfl ?_
       intro w31 hq
       replace M := M.trans hq
       clear hq
       refine wl_un (fun v => Op.unary .not v) (.tmp 25) (.bool false) (.bool true) (fun _ => rfl) rfl (by kernel_rfl) rfl ?_
       refine wl_m (.tmp 26) (.bool true) ?_
       refine wl_mv (.tmp 0) (.string s) (fun _ => rfl) e0 rfl ?_
       refine wl_m (.tmp 3) (.int .i64 ((j : Nat) : Int)) ?_
       refine wl_bin (fun x y => Instr.index 9 x y) (.tmp 28) (.tmp 29) (.string s) (.int .i64 ((j : Nat) : Int)) (.int .u8 (bt s (j))) (fun _ => rfl) rfl rfl (idx_b (by omega) _) rfl ?_
       refine wl_call 38 [(.tmp 30)] _ [.int .u8 (bt s (j))] (.bool true) rfl rfl (fun _ _ => by kernel_rfl) (dgt_c hf32 lisDigit_n _) rfl ?_
       intro w32 hq
       replace M := M.trans hq
       clear hq
       refine wl_un (fun v => Op.unary .not v) (.tmp 31) (.bool true) (.bool false) (fun _ => rfl) rfl (by kernel_rfl) rfl ?_
       refine wl_pick (.tmp 27) (.tmp 32) (.const (.bool false)) true (.bool false) (fun _ => rfl) rfl rfl rfl ?_
       refine w_nil (xn_then (w_condF rfl (w_skip (xn_blk (xn_then (w_reg ?_))))))
       refine wl_bin (fun x y => do eqGuard .add 3 (.tmp 19) (.const (.int .i64 (1))) x y; binOp .add 3 x y) (.tmp 19) (.const (.int .i64 (1))) (.int .i64 ((j : Nat) : Int)) (.int .i64 (1)) (.int .i64 ((j + 1 : Nat) : Int)) (fun _ => rfl) e3 rfl (add1r (k := j) (by omega) _ _ _) rfl ?_
       refine wl_m (.tmp 34) (.int .i64 ((j + 1 : Nat) : Int)) ?_
       refine w_nil ?_
       exact xn_loop (s.size - (j + 1)) (by omega) ⟨j + 1, rfl, e0, rfl, e18, by omega, by rw [nmA_in (by omega)] at hN; rw [← hN]; simp [hf31, hf32], M⟩
      | false =>
       refine w_reg ?_
       refine wl_mv (.tmp 0) (.string s) (fun _ => rfl) e0 rfl ?_
       refine wl_m (.tmp 3) (.int .i64 ((j : Nat) : Int)) ?_
       refine wl_bin (fun x y => Instr.index 9 x y) (.tmp 22) (.tmp 23) (.string s) (.int .i64 ((j : Nat) : Int)) (.int .u8 (bt s (j))) (fun _ => rfl) rfl rfl (idx_b (by omega) _) rfl ?_
       refine wl_call 37 [(.tmp 24)] _ [.int .u8 (bt s (j))] (.bool false) rfl rfl (fun _ _ => by kernel_rfl) (ltr_c hf31 isLetter_n _) rfl ?_
       intro w31 hq
       replace M := M.trans hq
       clear hq
       refine wl_un (fun v => Op.unary .not v) (.tmp 25) (.bool false) (.bool true) (fun _ => rfl) rfl (by kernel_rfl) rfl ?_
       refine wl_m (.tmp 26) (.bool true) ?_
       refine wl_mv (.tmp 0) (.string s) (fun _ => rfl) e0 rfl ?_
       refine wl_m (.tmp 3) (.int .i64 ((j : Nat) : Int)) ?_
       refine wl_bin (fun x y => Instr.index 9 x y) (.tmp 28) (.tmp 29) (.string s) (.int .i64 ((j : Nat) : Int)) (.int .u8 (bt s (j))) (fun _ => rfl) rfl rfl (idx_b (by omega) _) rfl ?_
       refine wl_call 38 [(.tmp 30)] _ [.int .u8 (bt s (j))] (.bool false) rfl rfl (fun _ _ => by kernel_rfl) (dgt_c hf32 lisDigit_n _) rfl ?_
       intro w32 hq
       replace M := M.trans hq
       clear hq
       refine wl_un (fun v => Op.unary .not v) (.tmp 31) (.bool false) (.bool true) (fun _ => rfl) rfl (by kernel_rfl) rfl ?_
       refine wl_pick (.tmp 27) (.tmp 32) (.const (.bool false)) true (.bool true) (fun _ => rfl) rfl rfl rfl ?_
       refine w_nil (xn_then (w_condT rfl (w_seq (w_reg ?_))))
       refine wl_m (.const (.bool false)) (.bool false) ?_
       refine w_nil (xn_then (w_ret (xr_blk (xr_then (xr_then (xr_blk (xr_then ?_)))))))
       exact w_ret1 _ (.bool false) rfl rfl ⟨by rw [← hN, nmA_in (by omega)]; simp [hf31, hf32], M⟩
    | false =>
     have hf30p := of_decide_eq_false hf30
     refine w_reg ?_
     refine wl_bin (fun x y => do eqGuard .lss 3 (.tmp 19) (.tmp 18) x y; binOp .lss 3 x y) (.tmp 19) (.tmp 18) (.int .i64 ((j : Nat) : Int)) (.int .i64 ((s.size : Nat) : Int)) (.bool false) (fun _ => rfl) e3 e18 (ltN hf30 _ _ _) rfl ?_
     refine w_nil (xn_then (w_seq (w_condF rfl (w_exit (xx_then (xx_then (xx_blk (xn_then (w_seq (w_reg ?_))))))))))
     refine wl_m (.const (.bool true)) (.bool true) ?_
     refine w_nil (xn_then (w_ret ?_))
     exact w_ret1 _ (.bool true) rfl rfl ⟨by rw [← hN, nmA_end (by omega)], M⟩
   | false =>
    refine w_reg ?_
    refine wl_m (.tmp 0) (.string s) ?_
    refine wl_b .eql 9 (.tmp 4) (.const (.string ⟨#[]⟩)) (.string s) (.string ⟨#[]⟩) (.bool false) (eqz9 hf0 _ _ _) ?_
    refine wl_m (.tmp 5) (.bool false) ?_
    refine wl_m (.tmp 0) (.string s) ?_
    refine wl_val (.int .i64 ((s.size : Nat) : Int)) (len_s _ _ s (by exact rfl) _ _ _ _ _ _) rfl ?_
    refine wl_b .gtr 3 (.tmp 8) (.const (.int .i64 (32))) (.int .i64 ((s.size : Nat) : Int)) (.int .i64 (32)) (.bool false) (gtN hf1 _ _ _) ?_
    refine wl_pick (.tmp 6) (.const (.bool true)) (.tmp 9) false (.bool false) (fun _ => rfl) rfl rfl rfl ?_
    refine wl_m (.tmp 10) (.bool false) ?_
    refine wl_m (.tmp 0) (.string s) ?_
    refine wl_bin (fun x y => Instr.index 9 x y) (.tmp 12) (.const (.int .i64 (0))) (.string s) (.int .i64 (0)) (.int .u8 (bt s (0))) (fun _ => rfl) rfl rfl (idx0z (by omega) _) rfl ?_
    refine wl_call 37 [(.tmp 13)] _ [.int .u8 (bt s (0))] (.bool false) rfl rfl (fun _ _ => by kernel_rfl) (ltr_c hf2 isLetter_n _) rfl ?_
    intro w1 hq
    replace M := M.trans hq
    clear hq
    refine wl_un (fun v => Op.unary .not v) (.tmp 14) (.bool false) (.bool true) (fun _ => rfl) rfl (by kernel_rfl) rfl ?_
    refine wl_pick (.tmp 11) (.const (.bool true)) (.tmp 15) false (.bool true) (fun _ => rfl) rfl rfl rfl ?_
    refine w_nil (xn_then (w_condT rfl (w_seq (w_reg ?_))))
    refine wl_m (.const (.bool false)) (.bool false) ?_
    refine w_nil (xn_then (w_ret (xr_then ?_)))
    exact w_ret1 _ (.bool false) rfl rfl ⟨by unfold nam; rw [hf0, hf1, hf2]; rfl, M⟩
end Go.Proofs.YthgknegocfhdbaaDoor
/-
 Symbol and the document's; Blank where there is no such place.
-/
namespace Go.Proofs.YthgknegocfhdbaaDoor
open Go.RowKit
def sys : List ByteArray := [⟨#[123]⟩, ⟨#[125]⟩, ⟨#[40]⟩, ⟨#[41]⟩, ⟨#[44]⟩, ⟨#[59]⟩, ⟨#[58]⟩, ⟨#[46]⟩, ⟨#[61]⟩, ⟨#[33, 61]⟩, ⟨#[60]⟩, ⟨#[60, 61]⟩, ⟨#[62]⟩, ⟨#[62, 61]⟩, ⟨#[43]⟩, ⟨#[45]⟩, ⟨#[42]⟩]
def symb (s : ByteArray) : Bool := sys.any (fun x => s.toList == x.toList)
set_option maxRecDepth 10000 in
theorem sym_n (s : ByteArray) (w : World) : Calls Tryd.prog 18 #[.string s] w fun e w' => e = .returned (.bool (symb s)) ∧ Mo w w' := by
 refine w_enter 22 Tryd.func18 Tryd.ntmps18 rfl rfl ?_
 have M : Mo w w := Mo.refl _
 refine w_seq (w_reg ?_)
 refine wl_m (.const (.bool false)) (.bool false) ?_
 refine w_nil (xn_then (w_seq (w_seq (w_reg ?_))))
 refine wl_m (.tmp 0) (.string s) ?_
 refine w_nil (xn_then (w_block (w_seq (w_seq ?_))))
 cases hf0 : (s.toList == (⟨#[123]⟩ : ByteArray).toList) with
 | true =>
  refine w_reg ?_
  refine wl_b .eql 9 (.tmp 3) (.const (.string ⟨#[123]⟩)) (.string s) (.string ⟨#[123]⟩) (.bool true) (eq9 hf0 _ _ _) ?_
  refine wl_m (.tmp 5) (.bool true) ?_
  refine w_nil (xn_then (w_condT rfl (w_skip (xn_then (w_condT rfl (w_seq (w_reg ?_)))))))
  refine wl_m (.const (.bool true)) (.bool true) ?_
  refine w_nil (xn_then (w_ret (xr_blk (xr_then ?_))))
  exact w_ret1 _ (.bool true) rfl rfl ⟨by unfold symb sys; simp only [List.any_cons, List.any_nil]; rw [hf0]; rfl, M⟩
 | false =>
  refine w_reg ?_
  refine wl_b .eql 9 (.tmp 3) (.const (.string ⟨#[123]⟩)) (.string s) (.string ⟨#[123]⟩) (.bool false) (eq9 hf0 _ _ _) ?_
  refine wl_m (.tmp 5) (.bool false) ?_
  refine w_nil (xn_then (w_condF rfl (w_seq ?_)))
  cases hf1 : (s.toList == (⟨#[125]⟩ : ByteArray).toList) with
  | true =>
   refine w_reg ?_
   refine wl_b .eql 9 (.tmp 3) (.const (.string ⟨#[125]⟩)) (.string s) (.string ⟨#[125]⟩) (.bool true) (eq9 hf1 _ _ _) ?_
   refine wl_m (.tmp 6) (.bool true) ?_
   refine w_nil (xn_then (w_condT rfl (w_skip (xn_then (w_condT rfl (w_seq (w_reg ?_)))))))
   refine wl_m (.const (.bool true)) (.bool true) ?_
   refine w_nil (xn_then (w_ret (xr_blk (xr_then ?_))))
   exact w_ret1 _ (.bool true) rfl rfl ⟨by unfold symb sys; simp only [List.any_cons, List.any_nil]; rw [hf0, hf1]; rfl, M⟩
  | false =>
   refine w_reg ?_
   refine wl_b .eql 9 (.tmp 3) (.const (.string ⟨#[125]⟩)) (.string s) (.string ⟨#[125]⟩) (.bool false) (eq9 hf1 _ _ _) ?_
   refine wl_m (.tmp 6) (.bool false) ?_
   refine w_nil (xn_then (w_condF rfl (w_seq ?_)))
   cases hf2 : (s.toList == (⟨#[40]⟩ : ByteArray).toList) with
   | true =>
    refine w_reg ?_
    refine wl_b .eql 9 (.tmp 3) (.const (.string ⟨#[40]⟩)) (.string s) (.string ⟨#[40]⟩) (.bool true) (eq9 hf2 _ _ _) ?_
    refine wl_m (.tmp 7) (.bool true) ?_
    refine w_nil (xn_then (w_condT rfl (w_skip (xn_then (w_condT rfl (w_seq (w_reg ?_)))))))
    refine wl_m (.const (.bool true)) (.bool true) ?_
    refine w_nil (xn_then (w_ret (xr_blk (xr_then ?_))))
    exact w_ret1 _ (.bool true) rfl rfl ⟨by unfold symb sys; simp only [List.any_cons, List.any_nil]; rw [hf0, hf1, hf2]; rfl, M⟩
   | false =>
    refine w_reg ?_
    refine wl_b .eql 9 (.tmp 3) (.const (.string ⟨#[40]⟩)) (.string s) (.string ⟨#[40]⟩) (.bool false) (eq9 hf2 _ _ _) ?_
    refine wl_m (.tmp 7) (.bool false) ?_
    refine w_nil (xn_then (w_condF rfl (w_seq ?_)))
    cases hf3 : (s.toList == (⟨#[41]⟩ : ByteArray).toList) with
    | true =>
     refine w_reg ?_
     refine wl_b .eql 9 (.tmp 3) (.const (.string ⟨#[41]⟩)) (.string s) (.string ⟨#[41]⟩) (.bool true) (eq9 hf3 _ _ _) ?_
     refine wl_m (.tmp 8) (.bool true) ?_
     refine w_nil (xn_then (w_condT rfl (w_skip (xn_then (w_condT rfl (w_seq (w_reg ?_)))))))
     refine wl_m (.const (.bool true)) (.bool true) ?_
     refine w_nil (xn_then (w_ret (xr_blk (xr_then ?_))))
     exact w_ret1 _ (.bool true) rfl rfl ⟨by unfold symb sys; simp only [List.any_cons, List.any_nil]; rw [hf0, hf1, hf2, hf3]; rfl, M⟩
    | false =>
     refine w_reg ?_
     refine wl_b .eql 9 (.tmp 3) (.const (.string ⟨#[41]⟩)) (.string s) (.string ⟨#[41]⟩) (.bool false) (eq9 hf3 _ _ _) ?_
     refine wl_m (.tmp 8) (.bool false) ?_
     refine w_nil (xn_then (w_condF rfl (w_seq ?_)))
     cases hf4 : (s.toList == (⟨#[44]⟩ : ByteArray).toList) with
     | true =>
      refine w_reg ?_
      refine wl_b .eql 9 (.tmp 3) (.const (.string ⟨#[44]⟩)) (.string s) (.string ⟨#[44]⟩) (.bool true) (eq9 hf4 _ _ _) ?_
      refine wl_m (.tmp 9) (.bool true) ?_
      refine w_nil (xn_then (w_condT rfl (w_skip (xn_then (w_condT rfl (w_seq (w_reg ?_)))))))
      refine wl_m (.const (.bool true)) (.bool true) ?_
      refine w_nil (xn_then (w_ret (xr_blk (xr_then ?_))))
      exact w_ret1 _ (.bool true) rfl rfl ⟨by unfold symb sys; simp only [List.any_cons, List.any_nil]; rw [hf0, hf1, hf2, hf3, hf4]; rfl, M⟩
     | false =>
      refine w_reg ?_
      refine wl_b .eql 9 (.tmp 3) (.const (.string ⟨#[44]⟩)) (.string s) (.string ⟨#[44]⟩) (.bool false) (eq9 hf4 _ _ _) ?_
      refine wl_m (.tmp 9) (.bool false) ?_
      refine w_nil (xn_then (w_condF rfl (w_seq ?_)))
      cases hf5 : (s.toList == (⟨#[59]⟩ : ByteArray).toList) with
      | true =>
       refine w_reg ?_
       refine wl_b .eql 9 (.tmp 3) (.const (.string ⟨#[59]⟩)) (.string s) (.string ⟨#[59]⟩) (.bool true) (eq9 hf5 _ _ _) ?_
       refine wl_m (.tmp 10) (.bool true) ?_
       refine w_nil (xn_then (w_condT rfl (w_skip (xn_then (w_condT rfl (w_seq (w_reg ?_)))))))
       refine wl_m (.const (.bool true)) (.bool true) ?_
       refine w_nil (xn_then (w_ret (xr_blk (xr_then ?_))))
       exact w_ret1 _ (.bool true) rfl rfl ⟨by unfold symb sys; simp only [List.any_cons, List.any_nil]; rw [hf0, hf1, hf2, hf3, hf4, hf5]; rfl, M⟩
      | false =>
       refine w_reg ?_
       refine wl_b .eql 9 (.tmp 3) (.const (.string ⟨#[59]⟩)) (.string s) (.string ⟨#[59]⟩) (.bool false) (eq9 hf5 _ _ _) ?_
       refine wl_m (.tmp 10) (.bool false) ?_
       refine w_nil (xn_then (w_condF rfl (w_seq ?_)))
       cases hf6 : (s.toList == (⟨#[58]⟩ : ByteArray).toList) with
       | true =>
        refine w_reg ?_
        refine wl_b .eql 9 (.tmp 3) (.const (.string ⟨#[58]⟩)) (.string s) (.string ⟨#[58]⟩) (.bool true) (eq9 hf6 _ _ _) ?_
        refine wl_m (.tmp 11) (.bool true) ?_
        refine w_nil (xn_then (w_condT rfl (w_skip (xn_then (w_condT rfl (w_seq (w_reg ?_)))))))
        refine wl_m (.const (.bool true)) (.bool true) ?_
        refine w_nil (xn_then (w_ret (xr_blk (xr_then ?_))))
        exact w_ret1 _ (.bool true) rfl rfl ⟨by unfold symb sys; simp only [List.any_cons, List.any_nil]; rw [hf0, hf1, hf2, hf3, hf4, hf5, hf6]; rfl, M⟩
       | false =>
        refine w_reg ?_
        refine wl_b .eql 9 (.tmp 3) (.const (.string ⟨#[58]⟩)) (.string s) (.string ⟨#[58]⟩) (.bool false) (eq9 hf6 _ _ _) ?_
        refine wl_m (.tmp 11) (.bool false) ?_
        refine w_nil (xn_then (w_condF rfl (w_seq ?_)))
        cases hf7 : (s.toList == (⟨#[46]⟩ : ByteArray).toList) with
        | true =>
         refine w_reg ?_
         refine wl_b .eql 9 (.tmp 3) (.const (.string ⟨#[46]⟩)) (.string s) (.string ⟨#[46]⟩) (.bool true) (eq9 hf7 _ _ _) ?_
         refine wl_m (.tmp 12) (.bool true) ?_
         refine w_nil (xn_then (w_condT rfl (w_skip (xn_then (w_condT rfl (w_seq (w_reg ?_)))))))
         refine wl_m (.const (.bool true)) (.bool true) ?_
         refine w_nil (xn_then (w_ret (xr_blk (xr_then ?_))))
         exact w_ret1 _ (.bool true) rfl rfl ⟨by unfold symb sys; simp only [List.any_cons, List.any_nil]; rw [hf0, hf1, hf2, hf3, hf4, hf5, hf6, hf7]; rfl, M⟩
        | false =>
         refine w_reg ?_
         refine wl_b .eql 9 (.tmp 3) (.const (.string ⟨#[46]⟩)) (.string s) (.string ⟨#[46]⟩) (.bool false) (eq9 hf7 _ _ _) ?_
         refine wl_m (.tmp 12) (.bool false) ?_
         refine w_nil (xn_then (w_condF rfl (w_seq ?_)))
         cases hf8 : (s.toList == (⟨#[61]⟩ : ByteArray).toList) with
         | true =>
          refine w_reg ?_
          refine wl_b .eql 9 (.tmp 3) (.const (.string ⟨#[61]⟩)) (.string s) (.string ⟨#[61]⟩) (.bool true) (eq9 hf8 _ _ _) ?_
          refine wl_m (.tmp 13) (.bool true) ?_
          refine w_nil (xn_then (w_condT rfl (w_skip (xn_then (w_condT rfl (w_seq (w_reg ?_)))))))
          refine wl_m (.const (.bool true)) (.bool true) ?_
          refine w_nil (xn_then (w_ret (xr_blk (xr_then ?_))))
          exact w_ret1 _ (.bool true) rfl rfl ⟨by unfold symb sys; simp only [List.any_cons, List.any_nil]; rw [hf0, hf1, hf2, hf3, hf4, hf5, hf6, hf7, hf8]; rfl, M⟩
         | false =>
          refine w_reg ?_
          refine wl_b .eql 9 (.tmp 3) (.const (.string ⟨#[61]⟩)) (.string s) (.string ⟨#[61]⟩) (.bool false) (eq9 hf8 _ _ _) ?_
          refine wl_m (.tmp 13) (.bool false) ?_
          refine w_nil (xn_then (w_condF rfl (w_seq ?_)))
          cases hf9 : (s.toList == (⟨#[33, 61]⟩ : ByteArray).toList) with
          | true =>
           refine w_reg ?_
           refine wl_b .eql 9 (.tmp 3) (.const (.string ⟨#[33, 61]⟩)) (.string s) (.string ⟨#[33, 61]⟩) (.bool true) (eq9 hf9 _ _ _) ?_
           refine wl_m (.tmp 14) (.bool true) ?_
           refine w_nil (xn_then (w_condT rfl (w_skip (xn_then (w_condT rfl (w_seq (w_reg ?_)))))))
           refine wl_m (.const (.bool true)) (.bool true) ?_
           refine w_nil (xn_then (w_ret (xr_blk (xr_then ?_))))
           exact w_ret1 _ (.bool true) rfl rfl ⟨by unfold symb sys; simp only [List.any_cons, List.any_nil]; rw [hf0, hf1, hf2, hf3, hf4, hf5, hf6, hf7, hf8, hf9]; rfl, M⟩
          | false =>
           refine w_reg ?_
           refine wl_b .eql 9 (.tmp 3) (.const (.string ⟨#[33, 61]⟩)) (.string s) (.string ⟨#[33, 61]⟩) (.bool false) (eq9 hf9 _ _ _) ?_
           refine wl_m (.tmp 14) (.bool false) ?_
           refine w_nil (xn_then (w_condF rfl (w_seq ?_)))
           cases hf10 : (s.toList == (⟨#[60]⟩ : ByteArray).toList) with
           | true =>
            refine w_reg ?_
            refine wl_b .eql 9 (.tmp 3) (.const (.string ⟨#[60]⟩)) (.string s) (.string ⟨#[60]⟩) (.bool true) (eq9 hf10 _ _ _) ?_
            refine wl_m (.tmp 15) (.bool true) ?_
            refine w_nil (xn_then (w_condT rfl (w_skip (xn_then (w_condT rfl (w_seq (w_reg ?_)))))))
            refine wl_m (.const (.bool true)) (.bool true) ?_
            refine w_nil (xn_then (w_ret (xr_blk (xr_then ?_))))
            exact w_ret1 _ (.bool true) rfl rfl ⟨by unfold symb sys; simp only [List.any_cons, List.any_nil]; rw [hf0, hf1, hf2, hf3, hf4, hf5, hf6, hf7, hf8, hf9, hf10]; rfl, M⟩
           | false =>
            refine w_reg ?_
            refine wl_b .eql 9 (.tmp 3) (.const (.string ⟨#[60]⟩)) (.string s) (.string ⟨#[60]⟩) (.bool false) (eq9 hf10 _ _ _) ?_
            refine wl_m (.tmp 15) (.bool false) ?_
            refine w_nil (xn_then (w_condF rfl (w_seq ?_)))
            cases hf11 : (s.toList == (⟨#[60, 61]⟩ : ByteArray).toList) with
            | true =>
             refine w_reg ?_
             refine wl_b .eql 9 (.tmp 3) (.const (.string ⟨#[60, 61]⟩)) (.string s) (.string ⟨#[60, 61]⟩) (.bool true) (eq9 hf11 _ _ _) ?_
             refine wl_m (.tmp 16) (.bool true) ?_
             refine w_nil (xn_then (w_condT rfl (w_skip (xn_then (w_condT rfl (w_seq (w_reg ?_)))))))
             refine wl_m (.const (.bool true)) (.bool true) ?_
             refine w_nil (xn_then (w_ret (xr_blk (xr_then ?_))))
             exact w_ret1 _ (.bool true) rfl rfl ⟨by unfold symb sys; simp only [List.any_cons, List.any_nil]; rw [hf0, hf1, hf2, hf3, hf4, hf5, hf6, hf7, hf8, hf9, hf10, hf11]; rfl, M⟩
            | false =>
             refine w_reg ?_
             refine wl_b .eql 9 (.tmp 3) (.const (.string ⟨#[60, 61]⟩)) (.string s) (.string ⟨#[60, 61]⟩) (.bool false) (eq9 hf11 _ _ _) ?_
             refine wl_m (.tmp 16) (.bool false) ?_
             refine w_nil (xn_then (w_condF rfl (w_seq ?_)))
             cases hf12 : (s.toList == (⟨#[62]⟩ : ByteArray).toList) with
             | true =>
              refine w_reg ?_
              refine wl_b .eql 9 (.tmp 3) (.const (.string ⟨#[62]⟩)) (.string s) (.string ⟨#[62]⟩) (.bool true) (eq9 hf12 _ _ _) ?_
              refine wl_m (.tmp 17) (.bool true) ?_
              refine w_nil (xn_then (w_condT rfl (w_skip (xn_then (w_condT rfl (w_seq (w_reg ?_)))))))
              refine wl_m (.const (.bool true)) (.bool true) ?_
              refine w_nil (xn_then (w_ret (xr_blk (xr_then ?_))))
              exact w_ret1 _ (.bool true) rfl rfl ⟨by unfold symb sys; simp only [List.any_cons, List.any_nil]; rw [hf0, hf1, hf2, hf3, hf4, hf5, hf6, hf7, hf8, hf9, hf10, hf11, hf12]; rfl, M⟩
             | false =>
              refine w_reg ?_
              refine wl_b .eql 9 (.tmp 3) (.const (.string ⟨#[62]⟩)) (.string s) (.string ⟨#[62]⟩) (.bool false) (eq9 hf12 _ _ _) ?_
              refine wl_m (.tmp 17) (.bool false) ?_
              refine w_nil (xn_then (w_condF rfl (w_seq ?_)))
              cases hf13 : (s.toList == (⟨#[62, 61]⟩ : ByteArray).toList) with
              | true =>
               refine w_reg ?_
               refine wl_b .eql 9 (.tmp 3) (.const (.string ⟨#[62, 61]⟩)) (.string s) (.string ⟨#[62, 61]⟩) (.bool true) (eq9 hf13 _ _ _) ?_
               refine wl_m (.tmp 18) (.bool true) ?_
               refine w_nil (xn_then (w_condT rfl (w_skip (xn_then (w_condT rfl (w_seq (w_reg ?_)))))))
               refine wl_m (.const (.bool true)) (.bool true) ?_
               refine w_nil (xn_then (w_ret (xr_blk (xr_then ?_))))
               exact w_ret1 _ (.bool true) rfl rfl ⟨by unfold symb sys; simp only [List.any_cons, List.any_nil]; rw [hf0, hf1, hf2, hf3, hf4, hf5, hf6, hf7, hf8, hf9, hf10, hf11, hf12, hf13]; rfl, M⟩
              | false =>
               refine w_reg ?_
               refine wl_b .eql 9 (.tmp 3) (.const (.string ⟨#[62, 61]⟩)) (.string s) (.string ⟨#[62, 61]⟩) (.bool false) (eq9 hf13 _ _ _) ?_
               refine wl_m (.tmp 18) (.bool false) ?_
               refine w_nil (xn_then (w_condF rfl (w_seq ?_)))
               cases hf14 : (s.toList == (⟨#[43]⟩ : ByteArray).toList) with
               | true =>
                refine w_reg ?_
                refine wl_b .eql 9 (.tmp 3) (.const (.string ⟨#[43]⟩)) (.string s) (.string ⟨#[43]⟩) (.bool true) (eq9 hf14 _ _ _) ?_
                refine wl_m (.tmp 19) (.bool true) ?_
                refine w_nil (xn_then (w_condT rfl (w_skip (xn_then (w_condT rfl (w_seq (w_reg ?_)))))))
                refine wl_m (.const (.bool true)) (.bool true) ?_
                refine w_nil (xn_then (w_ret (xr_blk (xr_then ?_))))
                exact w_ret1 _ (.bool true) rfl rfl ⟨by unfold symb sys; simp only [List.any_cons, List.any_nil]; rw [hf0, hf1, hf2, hf3, hf4, hf5, hf6, hf7, hf8, hf9, hf10, hf11, hf12, hf13, hf14]; rfl, M⟩
               | false =>
                refine w_reg ?_
                refine wl_b .eql 9 (.tmp 3) (.const (.string ⟨#[43]⟩)) (.string s) (.string ⟨#[43]⟩) (.bool false) (eq9 hf14 _ _ _) ?_
                refine wl_m (.tmp 19) (.bool false) ?_
                refine w_nil (xn_then (w_condF rfl (w_seq ?_)))
                cases hf15 : (s.toList == (⟨#[45]⟩ : ByteArray).toList) with
                | true =>
                 refine w_reg ?_
                 refine wl_b .eql 9 (.tmp 3) (.const (.string ⟨#[45]⟩)) (.string s) (.string ⟨#[45]⟩) (.bool true) (eq9 hf15 _ _ _) ?_
                 refine wl_m (.tmp 20) (.bool true) ?_
                 refine w_nil (xn_then (w_condT rfl (w_skip (xn_then (w_condT rfl (w_seq (w_reg ?_)))))))
                 refine wl_m (.const (.bool true)) (.bool true) ?_
                 refine w_nil (xn_then (w_ret (xr_blk (xr_then ?_))))
                 exact w_ret1 _ (.bool true) rfl rfl ⟨by unfold symb sys; simp only [List.any_cons, List.any_nil]; rw [hf0, hf1, hf2, hf3, hf4, hf5, hf6, hf7, hf8, hf9, hf10, hf11, hf12, hf13, hf14, hf15]; rfl, M⟩
                | false =>
                 refine w_reg ?_
                 refine wl_b .eql 9 (.tmp 3) (.const (.string ⟨#[45]⟩)) (.string s) (.string ⟨#[45]⟩) (.bool false) (eq9 hf15 _ _ _) ?_
                 refine wl_m (.tmp 20) (.bool false) ?_
                 refine w_nil (xn_then (w_condF rfl ?_))
                 cases hf16 : (s.toList == (⟨#[42]⟩ : ByteArray).toList) with
                 | true =>
                  refine w_reg ?_
                  refine wl_b .eql 9 (.tmp 3) (.const (.string ⟨#[42]⟩)) (.string s) (.string ⟨#[42]⟩) (.bool true) (eq9 hf16 _ _ _) ?_
                  refine wl_m (.tmp 21) (.bool true) ?_
                  refine w_nil (xn_then (w_condT rfl (w_seq (w_reg ?_))))
                  refine wl_m (.const (.bool true)) (.bool true) ?_
                  refine w_nil (xn_then (w_ret (xr_blk (xr_then ?_))))
                  exact w_ret1 _ (.bool true) rfl rfl ⟨by unfold symb sys; simp only [List.any_cons, List.any_nil]; rw [hf0, hf1, hf2, hf3, hf4, hf5, hf6, hf7, hf8, hf9, hf10, hf11, hf12, hf13, hf14, hf15, hf16]; rfl, M⟩
                 | false =>
                  refine w_reg ?_
                  refine wl_b .eql 9 (.tmp 3) (.const (.string ⟨#[42]⟩)) (.string s) (.string ⟨#[42]⟩) (.bool false) (eq9 hf16 _ _ _) ?_
                  refine wl_m (.tmp 21) (.bool false) ?_
                  refine w_nil (xn_then (w_condF rfl (w_skip (xn_blk (xn_then (w_seq (w_reg ?_)))))))
                  refine wl_m (.const (.bool false)) (.bool false) ?_
                  refine w_nil (xn_then (w_ret ?_))
                  exact w_ret1 _ (.bool false) rfl rfl ⟨by unfold symb sys; simp only [List.any_cons, List.any_nil]; rw [hf0, hf1, hf2, hf3, hf4, hf5, hf6, hf7, hf8, hf9, hf10, hf11, hf12, hf13, hf14, hf15, hf16]; rfl, M⟩
end Go.Proofs.YthgknegocfhdbaaDoor
/-
 hexByte and firstByte.
-/
namespace Go.Proofs.YthgknegocfhdbaaDoor
open Go.RowKit

set_option maxRecDepth 100000 in
theorem bits16 : ∀ a : Fin 16, ∀ b : Fin 16, bits BinOp.or IntKind.i64 (16 * ((a.val : Nat) : Int)) ((b.val : Nat) : Int) = 16 * ((a.val : Nat) : Int) + ((b.val : Nat) : Int) := by decide +kernel
theorem or16 {a b : Nat} (ha : a < 16) (hb : b < 16) (x y : Operand) (w : World) : (do eqGuard .or 3 x y (.int .i64 ((16 * a : Nat) : Int)) (.int .i64 (b : Int)); binOp .or 3 (.int .i64 ((16 * a : Nat) : Int)) (.int .i64 (b : Int))).run Tryd.prog w = .ok (.int .i64 ((16 * a + b : Nat) : Int)) w := by
 have h := bits16 ⟨a, ha⟩ ⟨b, hb⟩
 simp [go_sem]; exact h
theorem shl4 {a : Nat} (ha : a < 16) (x y : Operand) (w : World) : (do eqGuard .shl 3 x y (.int .i64 (a : Int)) (.int .u64 4); binOp .shl 3 (.int .i64 (a : Int)) (.int .u64 4)).run Tryd.prog w = .ok (.int .i64 ((16 * a : Nat) : Int)) w := by
 simp [go_sem]; rw [IntKind.wrap_i64]; omega
theorem cv35 {a : Nat} (ha : a < 256) (w : World) : (convert 3 5 (.int .i64 (a : Int))).run Tryd.prog w = .ok (.int .u8 (a : Int)) w := by
 have h : IntKind.u8.wrap (a : Int) = (a : Int) := by rw [IntKind.wrap_u8]; omega
 simp [go_sem, h]
def hxd (c : Int) : Int := Lib.indexByte (by8 ⟨#[48, 49, 50, 51, 52, 53, 54, 55, 56, 57, 97, 98, 99, 100, 101, 102]⟩) c.toNat.toUInt8
theorem hxd_cases (c : Int) : hxd c = -1 ∨ ∃ a : Nat, a < 16 ∧ hxd c = (a : Int) := by
 have h := Lib.indexByte_ge (by8 ⟨#[48, 49, 50, 51, 52, 53, 54, 55, 56, 57, 97, 98, 99, 100, 101, 102]⟩) c.toNat.toUInt8
 by_cases h1 : hxd c = -1
 ·exact Or.inl h1
 ·obtain ⟨a, ha⟩ : ∃ a : Nat, hxd c = (a : Int) := ⟨(hxd c).toNat, by unfold hxd at h1 ⊢; omega⟩
  refine Or.inr ⟨a, ?_, ha⟩
  have := (List.getElem?_eq_some_iff.1 (Lib.indexByte_some ha).1).1
  exact this
def hexB (h l : Int) : Int × Int := if hxd h < 0 ∨ hxd l < 0 then (0, 0) else if prn (16 * hxd h + hxd l) then (0, 0) else (16 * hxd h + hxd l, 4)
theorem hxd_n {c r : Int} (h : hxd c = r) (w : World) : Calls Tryd.prog 36 #[.string ⟨#[48, 49, 50, 51, 52, 53, 54, 55, 56, 57, 97, 98, 99, 100, 101, 102]⟩, .int .u8 c] w fun e w' => e = .returned (.int .i64 r) ∧ Mo w w' := h ▸ ixb_n ⟨#[48, 49, 50, 51, 52, 53, 54, 55, 56, 57, 97, 98, 99, 100, 101, 102]⟩ c w
theorem prn_c {c : Int} {r : Bool} (h : prn c = r) (w : World) : Calls Tryd.prog 43 #[.int .u8 c] w fun e w' => e = .returned (.bool r) ∧ Mo w w' := h ▸ isPrinted_n c w
theorem hexByte_n (h l : Int) (w : World) : Calls Tryd.prog 53 #[.int .u8 h, .int .u8 l] w fun e w' => e = .returned (.tuple #[.int .u8 (hexB h l).1, .int .i64 (hexB h l).2]) ∧ Mo w w' := by
 rcases hxd_cases h with h1 | ⟨a, ha, h1⟩
 ·obtain ⟨r2, h2⟩ : ∃ r, hxd l = r := ⟨_, rfl⟩
  refine w_enter 27 Tryd.func53 Tryd.ntmps53 rfl rfl ?_
  have M : Mo w w := Mo.refl _
  refine w_seq (w_reg ?_)
  refine wl_m (.const (.int .u8 (0))) (.int .u8 (0)) ?_
  refine wl_m (.const (.int .i64 (0))) (.int .i64 (0)) ?_
  refine w_nil (xn_then (w_seq (w_reg ?_)))
  refine wl_m (.tmp 0) (.int .u8 (h)) ?_
  refine wl_call 36 [(.const (.string ⟨#[48, 49, 50, 51, 52, 53, 54, 55, 56, 57, 97, 98, 99, 100, 101, 102]⟩)), (.tmp 9)] _ [.string ⟨#[48, 49, 50, 51, 52, 53, 54, 55, 56, 57, 97, 98, 99, 100, 101, 102]⟩, .int .u8 (h)] (.int .i64 (-1)) rfl rfl (fun _ _ => by kernel_rfl) (hxd_n h1 _) rfl ?_
  intro w1 hq
  replace M := M.trans hq
  clear hq
  refine wl_m (.tmp 1) (.int .u8 (l)) ?_
  refine wl_call 36 [(.const (.string ⟨#[48, 49, 50, 51, 52, 53, 54, 55, 56, 57, 97, 98, 99, 100, 101, 102]⟩)), (.tmp 11)] _ [.string ⟨#[48, 49, 50, 51, 52, 53, 54, 55, 56, 57, 97, 98, 99, 100, 101, 102]⟩, .int .u8 (l)] (.int .i64 (r2)) rfl rfl (fun _ _ => by kernel_rfl) (hxd_n h2 _) rfl ?_
  intro w2 hq
  replace M := M.trans hq
  clear hq
  refine wl_m (.tmp 10) (.int .i64 (-1)) ?_
  refine wl_m (.tmp 12) (.int .i64 (r2)) ?_
  refine w_nil (xn_then (w_seq (w_seq (w_reg ?_))))
  refine wl_m (.tmp 6) (.int .i64 (-1)) ?_
  refine wl_b .lss 3 (.tmp 13) (.const (.int .i64 (0))) (.int .i64 (-1)) (.int .i64 (0)) (.bool true) (lt3_run (r := true) (by decide) _ _ _) ?_
  refine wl_m (.tmp 14) (.bool true) ?_
  refine wl_skip rfl (wl_skip rfl ?_)
  refine wl_pick (.tmp 15) (.const (.bool true)) (.tmp 17) true (.bool true) (fun _ => rfl) rfl rfl rfl ?_
  refine w_nil (xn_then (w_condT rfl (w_seq (w_reg ?_))))
  refine wl_m (.const (.int .u8 (0))) (.int .u8 (0)) ?_
  refine wl_m (.const (.int .i64 (0))) (.int .i64 (0)) ?_
  refine w_nil (xn_then (w_ret (xr_then ?_)))
  exact w_ret2 _ _ (.int .u8 (0)) (.int .i64 (0)) rfl rfl rfl ⟨by unfold hexB; rw [if_pos (by omega)], M⟩
 ·rcases hxd_cases l with h2 | ⟨b, hb, h2⟩
  ·skip
   refine w_enter 27 Tryd.func53 Tryd.ntmps53 rfl rfl ?_
   have M : Mo w w := Mo.refl _
   refine w_seq (w_reg ?_)
   refine wl_m (.const (.int .u8 (0))) (.int .u8 (0)) ?_
   refine wl_m (.const (.int .i64 (0))) (.int .i64 (0)) ?_
   refine w_nil (xn_then (w_seq (w_reg ?_)))
   refine wl_m (.tmp 0) (.int .u8 (h)) ?_
   refine wl_call 36 [(.const (.string ⟨#[48, 49, 50, 51, 52, 53, 54, 55, 56, 57, 97, 98, 99, 100, 101, 102]⟩)), (.tmp 9)] _ [.string ⟨#[48, 49, 50, 51, 52, 53, 54, 55, 56, 57, 97, 98, 99, 100, 101, 102]⟩, .int .u8 (h)] (.int .i64 ((a : Nat) : Int)) rfl rfl (fun _ _ => by kernel_rfl) (hxd_n h1 _) rfl ?_
   intro w1 hq
   replace M := M.trans hq
   clear hq
   refine wl_m (.tmp 1) (.int .u8 (l)) ?_
   refine wl_call 36 [(.const (.string ⟨#[48, 49, 50, 51, 52, 53, 54, 55, 56, 57, 97, 98, 99, 100, 101, 102]⟩)), (.tmp 11)] _ [.string ⟨#[48, 49, 50, 51, 52, 53, 54, 55, 56, 57, 97, 98, 99, 100, 101, 102]⟩, .int .u8 (l)] (.int .i64 (-1)) rfl rfl (fun _ _ => by kernel_rfl) (hxd_n h2 _) rfl ?_
   intro w2 hq
   replace M := M.trans hq
   clear hq
   refine wl_m (.tmp 10) (.int .i64 ((a : Nat) : Int)) ?_
   refine wl_m (.tmp 12) (.int .i64 (-1)) ?_
   refine w_nil (xn_then (w_seq (w_seq (w_reg ?_))))
   refine wl_m (.tmp 6) (.int .i64 ((a : Nat) : Int)) ?_
   refine wl_b .lss 3 (.tmp 13) (.const (.int .i64 (0))) (.int .i64 ((a : Nat) : Int)) (.int .i64 (0)) (.bool false) (lt3_run (r := false) (decide_eq_false (by omega)) _ _ _) ?_
   refine wl_m (.tmp 14) (.bool false) ?_
   refine wl_m (.tmp 7) (.int .i64 (-1)) ?_
   refine wl_b .lss 3 (.tmp 16) (.const (.int .i64 (0))) (.int .i64 (-1)) (.int .i64 (0)) (.bool true) (lt3_run (r := true) (by decide) _ _ _) ?_
   refine wl_pick (.tmp 15) (.const (.bool true)) (.tmp 17) false (.bool true) (fun _ => rfl) rfl rfl rfl ?_
   refine w_nil (xn_then (w_condT rfl (w_seq (w_reg ?_))))
   refine wl_m (.const (.int .u8 (0))) (.int .u8 (0)) ?_
   refine wl_m (.const (.int .i64 (0))) (.int .i64 (0)) ?_
   refine w_nil (xn_then (w_ret (xr_then ?_)))
   exact w_ret2 _ _ (.int .u8 (0)) (.int .i64 (0)) rfl rfl rfl ⟨by unfold hexB; rw [if_pos (by omega)], M⟩
  ·skip
   refine w_enter 27 Tryd.func53 Tryd.ntmps53 rfl rfl ?_
   have M : Mo w w := Mo.refl _
   refine w_seq (w_reg ?_)
   refine wl_m (.const (.int .u8 (0))) (.int .u8 (0)) ?_
   refine wl_m (.const (.int .i64 (0))) (.int .i64 (0)) ?_
   refine w_nil (xn_then (w_seq (w_reg ?_)))
   refine wl_m (.tmp 0) (.int .u8 (h)) ?_
   refine wl_call 36 [(.const (.string ⟨#[48, 49, 50, 51, 52, 53, 54, 55, 56, 57, 97, 98, 99, 100, 101, 102]⟩)), (.tmp 9)] _ [.string ⟨#[48, 49, 50, 51, 52, 53, 54, 55, 56, 57, 97, 98, 99, 100, 101, 102]⟩, .int .u8 (h)] (.int .i64 ((a : Nat) : Int)) rfl rfl (fun _ _ => by kernel_rfl) (hxd_n h1 _) rfl ?_
   intro w1 hq
   replace M := M.trans hq
   clear hq
   refine wl_m (.tmp 1) (.int .u8 (l)) ?_
   refine wl_call 36 [(.const (.string ⟨#[48, 49, 50, 51, 52, 53, 54, 55, 56, 57, 97, 98, 99, 100, 101, 102]⟩)), (.tmp 11)] _ [.string ⟨#[48, 49, 50, 51, 52, 53, 54, 55, 56, 57, 97, 98, 99, 100, 101, 102]⟩, .int .u8 (l)] (.int .i64 ((b : Nat) : Int)) rfl rfl (fun _ _ => by kernel_rfl) (hxd_n h2 _) rfl ?_
   intro w2 hq
   replace M := M.trans hq
   clear hq
   refine wl_m (.tmp 10) (.int .i64 ((a : Nat) : Int)) ?_
   refine wl_m (.tmp 12) (.int .i64 ((b : Nat) : Int)) ?_
   refine w_nil (xn_then (w_seq (w_seq (w_reg ?_))))
   refine wl_m (.tmp 6) (.int .i64 ((a : Nat) : Int)) ?_
   refine wl_b .lss 3 (.tmp 13) (.const (.int .i64 (0))) (.int .i64 ((a : Nat) : Int)) (.int .i64 (0)) (.bool false) (lt3_run (r := false) (decide_eq_false (by omega)) _ _ _) ?_
   refine wl_m (.tmp 14) (.bool false) ?_
   refine wl_m (.tmp 7) (.int .i64 ((b : Nat) : Int)) ?_
   refine wl_b .lss 3 (.tmp 16) (.const (.int .i64 (0))) (.int .i64 ((b : Nat) : Int)) (.int .i64 (0)) (.bool false) (lt3_run (r := false) (decide_eq_false (by omega)) _ _ _) ?_
   refine wl_pick (.tmp 15) (.const (.bool true)) (.tmp 17) false (.bool false) (fun _ => rfl) rfl rfl rfl ?_
   refine w_nil (xn_then (w_condF rfl (w_skip (xn_then (w_seq (w_reg ?_))))))
   refine wl_m (.tmp 6) (.int .i64 ((a : Nat) : Int)) ?_
   refine wl_b .shl 3 (.tmp 19) (.const (.int .u64 (4))) (.int .i64 ((a : Nat) : Int)) (.int .u64 (4)) (.int .i64 ((16 * a : Nat) : Int)) (shl4 ha _ _ _) ?_
   refine wl_m (.tmp 7) (.int .i64 ((b : Nat) : Int)) ?_
   refine wl_b .or 3 (.tmp 20) (.tmp 21) (.int .i64 ((16 * a : Nat) : Int)) (.int .i64 ((b : Nat) : Int)) (.int .i64 ((16 * a + b : Nat) : Int)) (or16 ha hb _ _ _) ?_
   refine wl_un (fun v => convert 3 5 v) (.tmp 22) (.int .i64 ((16 * a + b : Nat) : Int)) (.int .u8 ((16 * a + b : Nat) : Int)) (fun _ => rfl) rfl (cv35 (by omega) _) rfl ?_
   refine wl_m (.tmp 23) (.int .u8 ((16 * a + b : Nat) : Int)) ?_
   refine w_nil (xn_then (w_seq (w_seq ?_)))
   cases hf0 : prn ((16 * a + b : Nat) : Int) with
   | true =>
    refine w_reg ?_
    refine wl_m (.tmp 8) (.int .u8 ((16 * a + b : Nat) : Int)) ?_
    refine wl_call 43 [(.tmp 24)] _ [.int .u8 ((16 * a + b : Nat) : Int)] (.bool true) rfl rfl (fun _ _ => by kernel_rfl) (prn_c hf0 _) rfl ?_
    intro w3 hq
    replace M := M.trans hq
    clear hq
    refine w_nil (xn_then (w_condT rfl (w_seq (w_reg ?_))))
    refine wl_m (.const (.int .u8 (0))) (.int .u8 (0)) ?_
    refine wl_m (.const (.int .i64 (0))) (.int .i64 (0)) ?_
    refine w_nil (xn_then (w_ret (xr_then ?_)))
    exact w_ret2 _ _ (.int .u8 (0)) (.int .i64 (0)) rfl rfl rfl ⟨by unfold hexB; rw [if_neg (by omega), h1, h2, show (16 * (a : Int) + (b : Int)) = ((16 * a + b : Nat) : Int) by omega, if_pos hf0], M⟩
   | false =>
    refine w_reg ?_
    refine wl_m (.tmp 8) (.int .u8 ((16 * a + b : Nat) : Int)) ?_
    refine wl_call 43 [(.tmp 24)] _ [.int .u8 ((16 * a + b : Nat) : Int)] (.bool false) rfl rfl (fun _ _ => by kernel_rfl) (prn_c hf0 _) rfl ?_
    intro w3 hq
    replace M := M.trans hq
    clear hq
    refine w_nil (xn_then (w_condF rfl (w_skip (xn_then (w_seq (w_reg ?_))))))
    refine wl_m (.tmp 8) (.int .u8 ((16 * a + b : Nat) : Int)) ?_
    refine wl_m (.tmp 26) (.int .u8 ((16 * a + b : Nat) : Int)) ?_
    refine wl_m (.const (.int .i64 (4))) (.int .i64 (4)) ?_
    refine w_nil (xn_then (w_ret ?_))
    exact w_ret2 _ _ (.int .u8 ((16 * a + b : Nat) : Int)) (.int .i64 (4)) rfl rfl rfl ⟨by unfold hexB; rw [if_neg (by omega), h1, h2, show (16 * (a : Int) + (b : Int)) = ((16 * a + b : Nat) : Int) by omega, if_neg (by rw [hf0]; simp)], M⟩
def fb (s : ByteArray) : Int × Int :=
 if (bt s 0 == 92) = false then (if (bt s 0 == 34) = true ∨ prn (bt s 0) = false then (0, 0) else (bt s 0, 1))
 else if s.size < 2 then (0, 0) else if (bt s 1 == 34) = true ∨ (bt s 1 == 92) = true then (bt s 1, 2)
 else if (bt s 1 == 120) = true ∧ 4 ≤ s.size then hexB (bt s 2) (bt s 3) else (0, 0)
theorem geN {a b : Nat} {r : Bool} (h : decide (b ≤ a) = r) (x y : Operand) (w : World) : (do eqGuard .geq 3 x y (.int .i64 (a : Int)) (.int .i64 (b : Int)); binOp .geq 3 (.int .i64 (a : Int)) (.int .i64 (b : Int))).run Tryd.prog w = .ok (.bool r) w := by
 subst h; simp [go_sem]
theorem firstByte_n (s : ByteArray) (w : World) (h0 : 0 < s.size) : Calls Tryd.prog 39 #[.string s] w fun e w' => e = .returned (.tuple #[.int .u8 (fb s).1, .int .i64 (fb s).2]) ∧ Mo w w' := by
 refine w_enter 50 Tryd.func39 Tryd.ntmps39 rfl rfl ?_
 have M : Mo w w := Mo.refl _
 refine w_seq (w_reg ?_)
 refine wl_m (.const (.int .u8 (0))) (.int .u8 (0)) ?_
 refine wl_m (.const (.int .i64 (0))) (.int .i64 (0)) ?_
 refine w_nil (xn_then (w_seq (w_block (w_seq ?_))))
 cases hf0 : (bt s (0) == 92) with
 | true =>
  refine w_reg ?_
  refine wl_m (.tmp 0) (.string s) ?_
  refine wl_bin (fun x y => Instr.index 9 x y) (.tmp 5) (.const (.int .i64 (0))) (.string s) (.int .i64 (0)) (.int .u8 (bt s (0))) (fun _ => rfl) rfl rfl (idx_b (k := 0) (by omega) _) rfl ?_
  refine wl_b .neq 5 (.tmp 6) (.const (.int .u8 (92))) (.int .u8 (bt s (0))) (.int .u8 (92)) (.bool false) (ne5r hf0 _ _ _) ?_
  refine wl_m (.tmp 7) (.bool false) ?_
  refine w_nil (xn_then (w_condF rfl (w_seq ?_)))
  cases hf1 : decide (s.size < 2) with
  | true =>
   have hf1p := of_decide_eq_true hf1
   refine w_reg ?_
   refine wl_m (.tmp 0) (.string s) ?_
   refine wl_val (.int .i64 ((s.size : Nat) : Int)) (len_s _ _ s (by exact rfl) _ _ _ _ _ _) rfl ?_
   refine wl_b .lss 3 (.tmp 21) (.const (.int .i64 (2))) (.int .i64 ((s.size : Nat) : Int)) (.int .i64 (2)) (.bool true) (ltN hf1 _ _ _) ?_
   refine wl_m (.tmp 22) (.bool true) ?_
   refine w_nil (xn_then (w_condT rfl (w_seq (w_reg ?_))))
   refine wl_m (.const (.int .u8 (0))) (.int .u8 (0)) ?_
   refine wl_m (.const (.int .i64 (0))) (.int .i64 (0)) ?_
   refine w_nil (xn_then (w_ret (xr_blk (xr_then ?_))))
   exact w_ret2 _ _ (.int .u8 (0)) (.int .i64 (0)) rfl rfl rfl ⟨by unfold fb; rw [if_neg (by rw [hf0]; simp), if_pos hf1p], M⟩
  | false =>
   have hf1p := of_decide_eq_false hf1
   refine w_reg ?_
   refine wl_m (.tmp 0) (.string s) ?_
   refine wl_val (.int .i64 ((s.size : Nat) : Int)) (len_s _ _ s (by exact rfl) _ _ _ _ _ _) rfl ?_
   refine wl_b .lss 3 (.tmp 21) (.const (.int .i64 (2))) (.int .i64 ((s.size : Nat) : Int)) (.int .i64 (2)) (.bool false) (ltN hf1 _ _ _) ?_
   refine wl_m (.tmp 22) (.bool false) ?_
   refine w_nil (xn_then (w_condF rfl (w_seq ?_)))
   cases hf2 : (bt s (1) == 34) with
   | true =>
    refine w_reg ?_
    refine wl_m (.tmp 0) (.string s) ?_
    refine wl_bin (fun x y => Instr.index 9 x y) (.tmp 24) (.const (.int .i64 (1))) (.string s) (.int .i64 (1)) (.int .u8 (bt s (1))) (fun _ => rfl) rfl rfl (idx_b (k := 1) (by omega) _) rfl ?_
    refine wl_b .eql 5 (.tmp 25) (.const (.int .u8 (34))) (.int .u8 (bt s (1))) (.int .u8 (34)) (.bool true) (eq5r hf2 _ _ _) ?_
    refine wl_m (.tmp 26) (.bool true) ?_
    refine wl_skip rfl (wl_skip rfl (wl_skip rfl ?_))
    refine wl_pick (.tmp 27) (.const (.bool true)) (.tmp 30) true (.bool true) (fun _ => rfl) rfl rfl rfl ?_
    refine wl_m (.tmp 31) (.bool true) ?_
    refine w_nil (xn_then (w_condT rfl (w_seq (w_reg ?_))))
    refine wl_m (.tmp 0) (.string s) ?_
    refine wl_bin (fun x y => Instr.index 9 x y) (.tmp 32) (.const (.int .i64 (1))) (.string s) (.int .i64 (1)) (.int .u8 (bt s (1))) (fun _ => rfl) rfl rfl (idx_b (k := 1) (by omega) _) rfl ?_
    refine wl_m (.tmp 33) (.int .u8 (bt s (1))) ?_
    refine wl_m (.const (.int .i64 (2))) (.int .i64 (2)) ?_
    refine w_nil (xn_then (w_ret (xr_blk (xr_then ?_))))
    exact w_ret2 _ _ (.int .u8 (bt s (1))) (.int .i64 (2)) rfl rfl rfl ⟨by unfold fb; rw [if_neg (by rw [hf0]; simp), if_neg hf1p, if_pos (Or.inl hf2)], M⟩
   | false =>
    cases hf3 : (bt s (1) == 92) with
    | true =>
     refine w_reg ?_
     refine wl_m (.tmp 0) (.string s) ?_
     refine wl_bin (fun x y => Instr.index 9 x y) (.tmp 24) (.const (.int .i64 (1))) (.string s) (.int .i64 (1)) (.int .u8 (bt s (1))) (fun _ => rfl) rfl rfl (idx_b (k := 1) (by omega) _) rfl ?_
     refine wl_b .eql 5 (.tmp 25) (.const (.int .u8 (34))) (.int .u8 (bt s (1))) (.int .u8 (34)) (.bool false) (eq5r hf2 _ _ _) ?_
     refine wl_m (.tmp 26) (.bool false) ?_
     refine wl_m (.tmp 0) (.string s) ?_
     refine wl_bin (fun x y => Instr.index 9 x y) (.tmp 28) (.const (.int .i64 (1))) (.string s) (.int .i64 (1)) (.int .u8 (bt s (1))) (fun _ => rfl) rfl rfl (idx_b (k := 1) (by omega) _) rfl ?_
     refine wl_b .eql 5 (.tmp 29) (.const (.int .u8 (92))) (.int .u8 (bt s (1))) (.int .u8 (92)) (.bool true) (eq5r hf3 _ _ _) ?_
     refine wl_pick (.tmp 27) (.const (.bool true)) (.tmp 30) false (.bool true) (fun _ => rfl) rfl rfl rfl ?_
     refine wl_m (.tmp 31) (.bool true) ?_
     refine w_nil (xn_then (w_condT rfl (w_seq (w_reg ?_))))
     refine wl_m (.tmp 0) (.string s) ?_
     refine wl_bin (fun x y => Instr.index 9 x y) (.tmp 32) (.const (.int .i64 (1))) (.string s) (.int .i64 (1)) (.int .u8 (bt s (1))) (fun _ => rfl) rfl rfl (idx_b (k := 1) (by omega) _) rfl ?_
     refine wl_m (.tmp 33) (.int .u8 (bt s (1))) ?_
     refine wl_m (.const (.int .i64 (2))) (.int .i64 (2)) ?_
     refine w_nil (xn_then (w_ret (xr_blk (xr_then ?_))))
     exact w_ret2 _ _ (.int .u8 (bt s (1))) (.int .i64 (2)) rfl rfl rfl ⟨by unfold fb; rw [if_neg (by rw [hf0]; simp), if_neg hf1p, if_pos (Or.inr hf3)], M⟩
    | false =>
     refine w_reg ?_
     refine wl_m (.tmp 0) (.string s) ?_
     refine wl_bin (fun x y => Instr.index 9 x y) (.tmp 24) (.const (.int .i64 (1))) (.string s) (.int .i64 (1)) (.int .u8 (bt s (1))) (fun _ => rfl) rfl rfl (idx_b (k := 1) (by omega) _) rfl ?_
     refine wl_b .eql 5 (.tmp 25) (.const (.int .u8 (34))) (.int .u8 (bt s (1))) (.int .u8 (34)) (.bool false) (eq5r hf2 _ _ _) ?_
     refine wl_m (.tmp 26) (.bool false) ?_
     refine wl_m (.tmp 0) (.string s) ?_
     refine wl_bin (fun x y => Instr.index 9 x y) (.tmp 28) (.const (.int .i64 (1))) (.string s) (.int .i64 (1)) (.int .u8 (bt s (1))) (fun _ => rfl) rfl rfl (idx_b (k := 1) (by omega) _) rfl ?_
     refine wl_b .eql 5 (.tmp 29) (.const (.int .u8 (92))) (.int .u8 (bt s (1))) (.int .u8 (92)) (.bool false) (eq5r hf3 _ _ _) ?_
     refine wl_pick (.tmp 27) (.const (.bool true)) (.tmp 30) false (.bool false) (fun _ => rfl) rfl rfl rfl ?_
     refine wl_m (.tmp 31) (.bool false) ?_
     refine w_nil (xn_then (w_condF rfl (w_seq ?_)))
     cases hf4 : (bt s (1) == 120) with
     | true =>
      cases hf5 : decide (4 ≤ s.size) with
      | true =>
       have hf5p := of_decide_eq_true hf5
       refine w_reg ?_
       refine wl_m (.tmp 0) (.string s) ?_
       refine wl_bin (fun x y => Instr.index 9 x y) (.tmp 35) (.const (.int .i64 (1))) (.string s) (.int .i64 (1)) (.int .u8 (bt s (1))) (fun _ => rfl) rfl rfl (idx_b (k := 1) (by omega) _) rfl ?_
       refine wl_b .eql 5 (.tmp 36) (.const (.int .u8 (120))) (.int .u8 (bt s (1))) (.int .u8 (120)) (.bool true) (eq5r hf4 _ _ _) ?_
       refine wl_m (.tmp 37) (.bool true) ?_
       refine wl_m (.tmp 0) (.string s) ?_
       refine wl_val (.int .i64 ((s.size : Nat) : Int)) (len_s _ _ s (by exact rfl) _ _ _ _ _ _) rfl ?_
       refine wl_b .geq 3 (.tmp 40) (.const (.int .i64 (4))) (.int .i64 ((s.size : Nat) : Int)) (.int .i64 (4)) (.bool true) (geN hf5 _ _ _) ?_
       refine wl_pick (.tmp 38) (.tmp 41) (.const (.bool false)) true (.bool true) (fun _ => rfl) rfl rfl rfl ?_
       refine wl_m (.tmp 42) (.bool true) ?_
       refine w_nil (xn_then (w_condT rfl (w_seq ?_)))
       refine w_any 7 [.inl (.string s), .inl (.int .u8 (bt s (2))), .inl (.string s), .inl (.int .u8 (bt s (3))), .inl (.tuple #[.int .u8 ((hexB (bt s (2)) (bt s (3))).1), .int .i64 ((hexB (bt s (2)) (bt s (3))).2)]), .inl (.int .u8 ((hexB (bt s (2)) (bt s (3))).1)), .inl (.int .i64 ((hexB (bt s (2)) (bt s (3))).2))] [] (by kernel_rfl) (by kernel_rfl) (by kernel_rfl) (by kernel_rfl) rfl (by kernel_rfl) (by kernel_rfl) late_nil ?_ ?_ ?_
       ·exact Ds.none rfl
       ·refine ea_cons ?_ (ea_cons ?_ (ea_cons ?_ (ea_cons ?_ (ea_cons ?_ (ea_cons ?_ (ea_cons ?_ (ea_nil)))))))
        ·exact og_eq _ rfl (fun f wf hq hd K hK => go_run rfl (wo_mv (.tmp 0) (.string s) (fun _ => rfl) rfl (hK _ (Mo.refl _))))
        ·exact og_eq _ rfl (fun f wf hq hd K hK => go_run rfl (wo_bin (fun x y => Instr.index 9 x y) (.tmp 43) (.const (.int .i64 (2))) (.string s) (.int .i64 (2)) (.int .u8 (bt s (2))) (fun _ => rfl) (hd 0 rfl) rfl (idx_b (k := 2) (by omega) _) (hK _ (Mo.refl _))))
        ·exact og_eq _ rfl (fun f wf hq hd K hK => go_run rfl (wo_mv (.tmp 0) (.string s) (fun _ => rfl) rfl (hK _ (Mo.refl _))))
        ·exact og_eq _ rfl (fun f wf hq hd K hK => go_run rfl (wo_bin (fun x y => Instr.index 9 x y) (.tmp 45) (.const (.int .i64 (3))) (.string s) (.int .i64 (3)) (.int .u8 (bt s (3))) (fun _ => rfl) (hd 2 rfl) rfl (idx_b (k := 3) (by omega) _) (hK _ (Mo.refl _))))
        ·exact og_eq _ rfl (fun f wf hq hd K hK => go_run rfl (wo_call 53 [(.tmp 44), (.tmp 46)] _ [.int .u8 (bt s (2)), .int .u8 (bt s (3))] (.tuple #[.int .u8 ((hexB (bt s (2)) (bt s (3))).1), .int .i64 ((hexB (bt s (2)) (bt s (3))).2)]) rfl (li2 (hd 1 rfl) (hd 3 rfl)) (fun _ _ => by kernel_rfl) (hexByte_n (bt s (2)) (bt s (3)) _) hK))
        ·exact og_eq _ rfl (fun f wf hq hd K hK => go_run rfl (wo_un (fun v => Instr.extract v 0) (.tmp 47) (.tuple #[.int .u8 ((hexB (bt s (2)) (bt s (3))).1), .int .i64 ((hexB (bt s (2)) (bt s (3))).2)]) (.int .u8 ((hexB (bt s (2)) (bt s (3))).1)) (fun _ => rfl) (hd 4 rfl) (by kernel_rfl) (hK _ (Mo.refl _))))
        ·exact og_eq _ rfl (fun f wf hq hd K hK => go_run rfl (wo_un (fun v => Instr.extract v 1) (.tmp 47) (.tuple #[.int .u8 ((hexB (bt s (2)) (bt s (3))).1), .int .i64 ((hexB (bt s (2)) (bt s (3))).2)]) (.int .i64 ((hexB (bt s (2)) (bt s (3))).2)) (fun _ => rfl) (hd 4 rfl) (by kernel_rfl) (hK _ (Mo.refl _))))
       intro kf1 w1 hq hR hne
       replace M := M.trans hq
       clear hq hR hne
       refine wl_m (.tmp 48) (.int .u8 ((hexB (bt s (2)) (bt s (3))).1)) ?_
       refine wl_m (.tmp 49) (.int .i64 ((hexB (bt s (2)) (bt s (3))).2)) ?_
       refine w_nil (xn_then (w_ret (xr_blk (xr_then ?_))))
       exact w_ret2 _ _ (.int .u8 ((hexB (bt s (2)) (bt s (3))).1)) (.int .i64 ((hexB (bt s (2)) (bt s (3))).2)) rfl rfl rfl ⟨by unfold fb; rw [if_neg (by rw [hf0]; simp), if_neg hf1p, if_neg (fun e => by rcases e with e | e; (rw [hf2] at e; cases e); (rw [hf3] at e; cases e)), if_pos ⟨hf4, hf5p⟩], M⟩
      | false =>
       have hf5p := of_decide_eq_false hf5
       refine w_reg ?_
       refine wl_m (.tmp 0) (.string s) ?_
       refine wl_bin (fun x y => Instr.index 9 x y) (.tmp 35) (.const (.int .i64 (1))) (.string s) (.int .i64 (1)) (.int .u8 (bt s (1))) (fun _ => rfl) rfl rfl (idx_b (k := 1) (by omega) _) rfl ?_
       refine wl_b .eql 5 (.tmp 36) (.const (.int .u8 (120))) (.int .u8 (bt s (1))) (.int .u8 (120)) (.bool true) (eq5r hf4 _ _ _) ?_
       refine wl_m (.tmp 37) (.bool true) ?_
       refine wl_m (.tmp 0) (.string s) ?_
       refine wl_val (.int .i64 ((s.size : Nat) : Int)) (len_s _ _ s (by exact rfl) _ _ _ _ _ _) rfl ?_
       refine wl_b .geq 3 (.tmp 40) (.const (.int .i64 (4))) (.int .i64 ((s.size : Nat) : Int)) (.int .i64 (4)) (.bool false) (geN hf5 _ _ _) ?_
       refine wl_pick (.tmp 38) (.tmp 41) (.const (.bool false)) true (.bool false) (fun _ => rfl) rfl rfl rfl ?_
       refine wl_m (.tmp 42) (.bool false) ?_
       refine w_nil (xn_then (w_condF rfl (w_skip (xn_blk (xn_then (w_seq (w_reg ?_)))))))
       refine wl_m (.const (.int .u8 (0))) (.int .u8 (0)) ?_
       refine wl_m (.const (.int .i64 (0))) (.int .i64 (0)) ?_
       refine w_nil (xn_then (w_ret ?_))
       exact w_ret2 _ _ (.int .u8 (0)) (.int .i64 (0)) rfl rfl rfl ⟨by unfold fb; rw [if_neg (by rw [hf0]; simp), if_neg hf1p, if_neg (fun e => by rcases e with e | e; (rw [hf2] at e; cases e); (rw [hf3] at e; cases e)), if_neg (fun e => hf5p e.2)], M⟩
     | false =>
      refine w_reg ?_
      refine wl_m (.tmp 0) (.string s) ?_
      refine wl_bin (fun x y => Instr.index 9 x y) (.tmp 35) (.const (.int .i64 (1))) (.string s) (.int .i64 (1)) (.int .u8 (bt s (1))) (fun _ => rfl) rfl rfl (idx_b (k := 1) (by omega) _) rfl ?_
      refine wl_b .eql 5 (.tmp 36) (.const (.int .u8 (120))) (.int .u8 (bt s (1))) (.int .u8 (120)) (.bool false) (eq5r hf4 _ _ _) ?_
      refine wl_m (.tmp 37) (.bool false) ?_
      refine wl_skip rfl (wl_skip rfl (wl_skip rfl ?_))
      refine wl_pick (.tmp 38) (.tmp 41) (.const (.bool false)) false (.bool false) (fun _ => rfl) rfl rfl rfl ?_
      refine wl_m (.tmp 42) (.bool false) ?_
      refine w_nil (xn_then (w_condF rfl (w_skip (xn_blk (xn_then (w_seq (w_reg ?_)))))))
      refine wl_m (.const (.int .u8 (0))) (.int .u8 (0)) ?_
      refine wl_m (.const (.int .i64 (0))) (.int .i64 (0)) ?_
      refine w_nil (xn_then (w_ret ?_))
      exact w_ret2 _ _ (.int .u8 (0)) (.int .i64 (0)) rfl rfl rfl ⟨by unfold fb; rw [if_neg (by rw [hf0]; simp), if_neg hf1p, if_neg (fun e => by rcases e with e | e; (rw [hf2] at e; cases e); (rw [hf3] at e; cases e)), if_neg (fun e => by rw [hf4] at e; cases e.1)], M⟩
 | false =>
  refine w_reg ?_
  refine wl_m (.tmp 0) (.string s) ?_
  refine wl_bin (fun x y => Instr.index 9 x y) (.tmp 5) (.const (.int .i64 (0))) (.string s) (.int .i64 (0)) (.int .u8 (bt s (0))) (fun _ => rfl) rfl rfl (idx_b (k := 0) (by omega) _) rfl ?_
  refine wl_b .neq 5 (.tmp 6) (.const (.int .u8 (92))) (.int .u8 (bt s (0))) (.int .u8 (92)) (.bool true) (ne5r hf0 _ _ _) ?_
  refine wl_m (.tmp 7) (.bool true) ?_
  refine w_nil (xn_then (w_condT rfl (w_seq (w_seq ?_))))
  cases hf1 : (bt s (0) == 34) with
  | true =>
   refine w_reg ?_
   refine wl_m (.tmp 0) (.string s) ?_
   refine wl_bin (fun x y => Instr.index 9 x y) (.tmp 8) (.const (.int .i64 (0))) (.string s) (.int .i64 (0)) (.int .u8 (bt s (0))) (fun _ => rfl) rfl rfl (idx_b (k := 0) (by omega) _) rfl ?_
   refine wl_b .eql 5 (.tmp 9) (.const (.int .u8 (34))) (.int .u8 (bt s (0))) (.int .u8 (34)) (.bool true) (eq5r hf1 _ _ _) ?_
   refine wl_m (.tmp 10) (.bool true) ?_
   refine wl_skip rfl (wl_skip rfl (wl_skip rfl (wl_skip rfl ?_)))
   refine wl_pick (.tmp 11) (.const (.bool true)) (.tmp 15) true (.bool true) (fun _ => rfl) rfl rfl rfl ?_
   refine w_nil (xn_then (w_condT rfl (w_seq (w_reg ?_))))
   refine wl_m (.const (.int .u8 (0))) (.int .u8 (0)) ?_
   refine wl_m (.const (.int .i64 (0))) (.int .i64 (0)) ?_
   refine w_nil (xn_then (w_ret (xr_then (xr_blk (xr_then ?_)))))
   exact w_ret2 _ _ (.int .u8 (0)) (.int .i64 (0)) rfl rfl rfl ⟨by unfold fb; rw [if_pos hf0, if_pos (Or.inl hf1)], M⟩
  | false =>
   cases hf2 : prn (bt s (0)) with
   | true =>
    refine w_reg ?_
    refine wl_m (.tmp 0) (.string s) ?_
    refine wl_bin (fun x y => Instr.index 9 x y) (.tmp 8) (.const (.int .i64 (0))) (.string s) (.int .i64 (0)) (.int .u8 (bt s (0))) (fun _ => rfl) rfl rfl (idx_b (k := 0) (by omega) _) rfl ?_
    refine wl_b .eql 5 (.tmp 9) (.const (.int .u8 (34))) (.int .u8 (bt s (0))) (.int .u8 (34)) (.bool false) (eq5r hf1 _ _ _) ?_
    refine wl_m (.tmp 10) (.bool false) ?_
    refine wl_m (.tmp 0) (.string s) ?_
    refine wl_bin (fun x y => Instr.index 9 x y) (.tmp 12) (.const (.int .i64 (0))) (.string s) (.int .i64 (0)) (.int .u8 (bt s (0))) (fun _ => rfl) rfl rfl (idx_b (k := 0) (by omega) _) rfl ?_
    refine wl_call 43 [(.tmp 13)] _ [.int .u8 (bt s (0))] (.bool true) rfl rfl (fun _ _ => by kernel_rfl) (prn_c hf2 _) rfl ?_
    intro w1 hq
    replace M := M.trans hq
    clear hq
    refine wl_un (fun v => Op.unary .not v) (.tmp 14) (.bool true) (.bool false) (fun _ => rfl) rfl (by kernel_rfl) rfl ?_
    refine wl_pick (.tmp 11) (.const (.bool true)) (.tmp 15) false (.bool false) (fun _ => rfl) rfl rfl rfl ?_
    refine w_nil (xn_then (w_condF rfl (w_skip (xn_then (w_seq (w_reg ?_))))))
    refine wl_m (.tmp 0) (.string s) ?_
    refine wl_bin (fun x y => Instr.index 9 x y) (.tmp 17) (.const (.int .i64 (0))) (.string s) (.int .i64 (0)) (.int .u8 (bt s (0))) (fun _ => rfl) rfl rfl (idx_b (k := 0) (by omega) _) rfl ?_
    refine wl_m (.tmp 18) (.int .u8 (bt s (0))) ?_
    refine wl_m (.const (.int .i64 (1))) (.int .i64 (1)) ?_
    refine w_nil (xn_then (w_ret (xr_blk (xr_then ?_))))
    exact w_ret2 _ _ (.int .u8 (bt s (0))) (.int .i64 (1)) rfl rfl rfl ⟨by unfold fb; rw [if_pos hf0, if_neg (fun e => by rcases e with e | e; (rw [hf1] at e; cases e); (rw [hf2] at e; cases e))], M⟩
   | false =>
    refine w_reg ?_
    refine wl_m (.tmp 0) (.string s) ?_
    refine wl_bin (fun x y => Instr.index 9 x y) (.tmp 8) (.const (.int .i64 (0))) (.string s) (.int .i64 (0)) (.int .u8 (bt s (0))) (fun _ => rfl) rfl rfl (idx_b (k := 0) (by omega) _) rfl ?_
    refine wl_b .eql 5 (.tmp 9) (.const (.int .u8 (34))) (.int .u8 (bt s (0))) (.int .u8 (34)) (.bool false) (eq5r hf1 _ _ _) ?_
    refine wl_m (.tmp 10) (.bool false) ?_
    refine wl_m (.tmp 0) (.string s) ?_
    refine wl_bin (fun x y => Instr.index 9 x y) (.tmp 12) (.const (.int .i64 (0))) (.string s) (.int .i64 (0)) (.int .u8 (bt s (0))) (fun _ => rfl) rfl rfl (idx_b (k := 0) (by omega) _) rfl ?_
    refine wl_call 43 [(.tmp 13)] _ [.int .u8 (bt s (0))] (.bool false) rfl rfl (fun _ _ => by kernel_rfl) (prn_c hf2 _) rfl ?_
    intro w1 hq
    replace M := M.trans hq
    clear hq
    refine wl_un (fun v => Op.unary .not v) (.tmp 14) (.bool false) (.bool true) (fun _ => rfl) rfl (by kernel_rfl) rfl ?_
    refine wl_pick (.tmp 11) (.const (.bool true)) (.tmp 15) false (.bool true) (fun _ => rfl) rfl rfl rfl ?_
    refine w_nil (xn_then (w_condT rfl (w_seq (w_reg ?_))))
    refine wl_m (.const (.int .u8 (0))) (.int .u8 (0)) ?_
    refine wl_m (.const (.int .i64 (0))) (.int .i64 (0)) ?_
    refine w_nil (xn_then (w_ret (xr_then (xr_blk (xr_then ?_)))))
    exact w_ret2 _ _ (.int .u8 (0)) (.int .i64 (0)) rfl rfl rfl ⟨by unfold fb; rw [if_pos hf0, if_pos (Or.inr hf2)], M⟩
end Go.Proofs.YthgknegocfhdbaaDoor
/-
 A decimal text and its parts.
-/
namespace Go.Proofs.YthgknegocfhdbaaDoor
open Go.RowKit
def sg8 (b : Bool) : List UInt8 := if b then [45] else []
def tn (o : Option UInt8) : Int := match o with | none => 0 | some x => (x.toNat : Int)
theorem bt_tn (s : ByteArray) (k : Nat) : bt s k = tn ((by8 s)[k]?) := by
 by_cases h : k < s.size
 ·rw [bt_in h]
  have h2 : k < (by8 s).length := by rw [by8_len]; exact h
  rw [List.getElem?_eq_getElem h2]
  rfl
 ·rw [bt_out h]
  have h2 : ¬ k < (by8 s).length := by rw [by8_len]; exact h
  rw [List.getElem?_eq_none (by omega)]
  rfl
structure Df (l : List UInt8) (b : Bool) (A B : List UInt8) : Prop where
 eq : l = sg8 b ++ (A ++ (if B = [] then [] else 46 :: B))
 ne : A ≠ []
 ad : ∀ x ∈ A, isD x = true
 bd : ∀ x ∈ B, isD x = true
 ld : A.length = 1 ∨ A.head? ≠ some 48
 some : b = true → ∃ x ∈ A ++ B, x ≠ 48
theorem tn_in {x : UInt8} (h : isD x = true) : dgt (tn (some x)) = true := h
theorem dec_df {s : ByteArray} {b : Bool} {A B : List UInt8} (h : Df (by8 s) b A B) : isDec s = true := by
 have hl := by8_len s
 obtain ⟨heq, hne, had, hbd, hld, hsome⟩ := h
 have hApos : 0 < A.length := List.length_pos_iff.2 hne
 -- the letters
 have hA : ∀ (p : Nat) (S : List UInt8), by8 s = S ++ (A ++ (if B = [] then [] else 46 :: B)) → p = S.length →
   whp s p b = true := fun p S e hp => by
  have hgA : ∀ j, (hj : j < A.length) → bt s (p + j) = tn (some A[j]) := fun j hj => by
   rw [bt_tn, e, List.getElem?_append_right (by omega), hp, Nat.add_sub_cancel_left, List.getElem?_append_left hj, List.getElem?_eq_getElem hj]
  have hsz : s.size = p + A.length + (if B = [] then 0 else B.length + 1) := by
   rw [← hl, e]; simp only [List.length_append, hp]; split <;> simp <;> omega
  have hend : dgt (bt s (p + A.length)) = false := by
   rw [bt_tn, e, List.getElem?_append_right (by omega), hp, Nat.add_sub_cancel_left, List.getElem?_append_right (Nat.le_refl _), Nat.sub_self]
   split <;> rfl
  have hre : re s p = p + A.length := re_eq (by omega) (fun j h1 h2 => by
   have := hgA (j - p) (by omega)
   rw [show p + (j - p) = j by omega] at this
   rw [this]; exact tn_in (had _ (List.getElem_mem _))) hend
  have haz : az s p = true → ∀ x ∈ A, x = 48 := fun h x hx => by
   obtain ⟨j, hj, rfl⟩ := List.getElem_of_mem hx
   have h1 := az_iff.1 h (p + j) (by omega) (by omega)
   rw [hgA j hj] at h1
   apply UInt8.toNat_inj.1
   have e48 : (48 : UInt8).toNat = 48 := rfl
   have h1' : ((A[j]).toNat : Int) = 48 := h1
   omega
  unfold whp
  rw [hre]
  have h48 : ((bt s p == 48) && decide (p + A.length > p + 1)) = false := by
   rcases hld with hl1 | hl1
   ·rw [hl1]; simp
   ·have : (bt s p == 48) = false := beq_eq_false_iff_ne.2 fun e2 => hl1 (by
     have h0 := hgA 0 hApos
     rw [Nat.add_zero, e2] at h0
     rw [List.head?_eq_getElem?, List.getElem?_eq_getElem hApos]
     congr 1
     apply UInt8.toNat_inj.1
     have e48 : (48 : UInt8).toNat = 48 := rfl
     have h1' : (48 : Int) = ((A[0]).toNat : Int) := h0
     omega)
    rw [this]; rfl
  rw [h48]
  have hne2 : decide (p + A.length ≠ p) = true := decide_eq_true (by omega)
  rw [hne2]
  by_cases hB : B = []
  ·rw [if_pos hB] at hsz
   rw [if_neg (by omega)]
   cases hb : b with
   | false => simp
   | true =>
    obtain ⟨x, hx, hn⟩ := hsome hb
    rw [hB, List.append_nil] at hx
    cases ha : az s p with
    | false => simp
    | true => exact absurd (haz ha x hx) hn
  ·rw [if_neg hB] at hsz
   have hBpos : 0 < B.length := List.length_pos_iff.2 hB
   rw [if_pos (by omega)]
   have hgB : ∀ j, (hj : j < B.length) → bt s (p + A.length + 1 + j) = tn (some B[j]) := fun j hj => by
    rw [bt_tn, e, List.getElem?_append_right (by omega), hp, show S.length + A.length + 1 + j - S.length = A.length + (1 + j) by omega, List.getElem?_append_right (by omega), Nat.add_sub_cancel_left, if_neg hB, Nat.add_comm 1 j, List.getElem?_cons_succ, List.getElem?_eq_getElem hj]
   have h46 : (bt s (p + A.length) == 46) = true := by
    rw [bt_tn, e, List.getElem?_append_right (by omega), hp, Nat.add_sub_cancel_left, List.getElem?_append_right (Nat.le_refl _), Nat.sub_self, if_neg hB]
    rfl
   have hre2 : re s (p + A.length + 1) = s.size := re_eq (by omega) (fun j h1 h2 => by
    have := hgB (j - (p + A.length + 1)) (by omega)
    rw [show p + A.length + 1 + (j - (p + A.length + 1)) = j by omega] at this
    rw [this]; exact tn_in (hbd _ (List.getElem_mem _))) (by rw [bt_out (by omega)]; rfl)
   have haz2 : az s (p + A.length + 1) = true → ∀ x ∈ B, x = 48 := fun h x hx => by
    obtain ⟨j, hj, rfl⟩ := List.getElem_of_mem hx
    have h1 := az_iff.1 h (p + A.length + 1 + j) (by omega) (by omega)
    rw [hgB j hj] at h1
    apply UInt8.toNat_inj.1
    have e48 : (48 : UInt8).toNat = 48 := rfl
    have h1' : ((B[j]).toNat : Int) = 48 := h1
    omega
   rw [h46, hre2, decide_eq_true (show p + A.length + 1 ≠ s.size by omega)]
   cases hb : b with
   | false => simp
   | true =>
    obtain ⟨x, hx, hn⟩ := hsome hb
    cases ha : az s p with
    | false => simp
    | true =>
     cases ha2 : az s (p + A.length + 1) with
     | false => simp
     | true =>
      rcases List.mem_append.1 hx with hx | hx
      ·exact absurd (haz ha x hx) hn
      ·exact absurd (haz2 ha2 x hx) hn
 have h0 : ∀ x y : UInt8, x = y → True := fun _ _ _ => trivial
 rw [← whl_dec]
 unfold whl
 cases hb : b with
 | true =>
  rw [hb] at heq hA
  have : (bt s 0 == 45) = true := by rw [bt_tn, heq]; rfl
  rw [this, if_pos rfl]
  exact hA 1 _ heq rfl
 | false =>
  rw [hb] at heq hA
  have : (bt s 0 == 45) = false := by
   rw [bt_tn, heq]
   cases A with
   | nil => exact absurd rfl hne
   | cons a r =>
    have h1 := had a (by simp)
    refine beq_eq_false_iff_ne.2 fun e => ?_
    have e2 : (a.toNat : Int) = 45 := e
    unfold isD at h1
    rw [e2] at h1
    cases h1
  rw [this, if_neg (by simp)]
  exact hA 0 _ heq rfl
end Go.Proofs.YthgknegocfhdbaaDoor

/-
 The longest beginning that is a decimal text: it is one, and no longer one is.
-/
namespace Go.Proofs.YthgknegocfhdbaaDoor
open Go.RowKit
theorem fi_le {s : ByteArray} {p : Nat} {b : Bool} (hp : p ≤ s.size) : fi s p b ≤ s.size := by
 unfold fi
 split
 ·rename_i h
  have hin := eq_in (by decide) h
  unfold ah
  split
  ·rename_i h2
   simp only [Bool.and_eq_true] at h2
   have := dgt_in h2.2
   have := re_le (s := s) (k := p + 1 + 1) (by omega)
   split
   ·split <;> omega
   ·omega
  ·split <;> omega
 ·split
  ·have h1 := re_le hp
   unfold ah
   split
   ·rename_i h2
    simp only [Bool.and_eq_true] at h2
    have := dgt_in h2.2
    have := re_le (s := s) (k := re s p + 1) (by omega)
    simp; omega
   ·simp; omega
  ·omega
theorem pfx_le (s : ByteArray) : pfx s ≤ s.size := by
 unfold pfx
 split
 ·rename_i h
  have := eq_in (by decide) h
  exact fi_le (by omega)
 ·exact fi_le (by omega)
end Go.Proofs.YthgknegocfhdbaaDoor

