/-
  A part of the proof.
-/
import Derived.Test.YtoiiekmkcpcbgaaLimbTexts1
/-
  Texts: Parse, the program's and the document's, at every text.
-/
namespace Go.Proofs.Ytoiiekmkcpcbgaa
open Go.RowKit
/-- What the first k digits say. -/
def pvk (s : ByteArray) (k : Nat) : Int := pv (s.data.toList.take k)
theorem pvk_z (s : ByteArray) : pvk s 0 = 0 := by unfold pvk pv; simp
theorem pvk_succ (s : ByteArray) (k : Nat) (h : k < s.size) : pvk s (k + 1) = pvk s k * 10 + ((s[k].toNat : Int) - 48) := by
  unfold pvk; rw [take_snoc' s k h, pv_snoc]
theorem pvk_nn {s : ByteArray} (hd : dgs s s.size) : ∀ k, k ≤ s.size → 0 ≤ pvk s k
  | 0, _ => by unfold pvk pv; simp
  | k + 1, h => by
    rw [pvk_succ s k (by omega)]
    have := pvk_nn hd k (by omega)
    have := hd k (by omega) (by omega)
    omega
theorem pvk_le {s : ByteArray} (hd : dgs s s.size) : ∀ d k, k + d = s.size → pvk s k ≤ pvk s s.size
  | 0, k, h => by rw [show k = s.size by omega]; exact Int.le_refl _
  | d + 1, k, h => by
    have a := pvk_le hd d (k + 1) (by omega)
    rw [pvk_succ s k (by omega)] at a
    have := pvk_nn hd k (by omega)
    have := hd k (by omega) (by omega)
    omega
/-- A number and an error. -/
abbrev ez (e : Int) : Value := .tuple #[.agg #[.int .u64 0, .int .u64 0, .int .u64 0, .int .u64 0], .int .i64 e]
/-- What a text of digits says. -/
def resP (s : ByteArray) : Value := if pvk s s.size < MM then .tuple #[nv (pvk s s.size), .int .i64 0] else ez 7
theorem resP_over {s : ByteArray} (hd : dgs s s.size) {k : Nat} (hlt : k < s.size) (h : ¬ pvk s k * 10 + ((s[k].toNat : Int) - 48) < MM) : resP s = ez 7 := by
  unfold resP
  rw [if_neg]
  have a := pvk_le hd (s.size - (k + 1)) (k + 1) (by omega)
  rw [pvk_succ s k hlt] at a
  omega
theorem resP_ok {s : ByteArray} (h : pvk s s.size < MM) : resP s = .tuple #[nv (pvk s s.size), .int .i64 0] := by unfold resP; rw [if_pos h]
theorem subu8_run {c : Int} (h0 : 48 ≤ c) (h1 : c ≤ 57) (x y : Operand) (w : World) : (do eqGuard .sub 5 x y (.int .u8 c) (.int .u8 48); binOp .sub 5 (.int .u8 c) (.int .u8 48)).run Try.prog w = .ok (.int .u8 (c - 48)) w := by
  have e : (do eqGuard .sub 5 x y (.int .u8 c) (.int .u8 48); binOp .sub 5 (.int .u8 c) (.int .u8 48)).run Try.prog w = .ok (.int .u8 (IntKind.u8.wrap (c - 48))) w := by kernel_rfl
  have h : IntKind.u8.wrap (c - 48) = c - 48 := by rw [IntKind.wrap_u8]; omega
  rw [e, h]
theorem cv8_run {c : Int} (h0 : 0 ≤ c) (h1 : c ≤ 57) (w : World) : (convert 5 22 (.int .u8 c)).run Try.prog w = .ok (.int .u64 c) w := by
  have e : (convert 5 22 (.int .u8 c)).run Try.prog w = .ok (.int .u64 (IntKind.u64.wrap c)) w := by kernel_rfl
  have h : IntKind.u64.wrap c = c := by rw [IntKind.wrap_u64]; omega
  rw [e, h]
theorem Ds.one {sp : List Sp} {f : Nat → Value} {w : World} (i : Nat) (h : ∀ q, spNew (spAt sp q) = true → q = i) (h1 : ∀ k, f i = pt k 0 → k < w.heap.size) : Ds sp f w := by
  refine ⟨fun q hq k hk => ?_, fun q r hq hr hne k hk hk2 => ?_⟩
  · rw [h q hq] at hk; exact h1 k hk
  · exact hne ((h q hq).trans (h r hr).symm)
theorem parse_no (s : ByteArray) (w : World) (hi : ∀ w, Calls Try.prog 67 #[.string s] w fun e w' => e = .returned (.bool false) ∧ Mo w w') : Calls Try.prog 20 #[.string s] w fun e w' => e = .returned (ez 10) ∧ Mo w w' := by
  refine w_enter 29 Try.func20 Try.ntmps20 rfl rfl ?_
  have M : Mo w w := Mo.refl _
  refine w_seq ?_
  refine w_reg ?_
  refine wl_alloc 24 #[.int .u64 0, .int .u64 0, .int .u64 0, .int .u64 0] rfl (fun _ => by kernel_rfl) rfl ?_
  intro k1 w1 hk hz hq Q1
  have N_k1 : w.heap.size ≤ k1 := by have := M.size; omega
  replace M := M.trans hq
  clear hk hz hq
  refine wl_mv (.const (.int .i64 (0))) (.int .i64 (0)) (fun _ => rfl) rfl rfl ?_
  refine w_nil ?_
  refine xn_then ?_
  refine w_seq ?_
  refine w_seq ?_
  refine w_reg ?_
  refine wl_mv (.tmp 0) (.string s) (fun _ => rfl) rfl rfl ?_
  refine wl_call 67 [(.tmp 7)] _ [.string s] (.bool false) rfl rfl (fun _ _ => by kernel_rfl) (hi _) rfl ?_
  intro w2 hq
  replace Q1 := Q1.mo hq
  replace M := M.trans hq
  clear hq
  refine wl_un (fun v => Op.unary .not v) (.tmp 8) (.bool false) (.bool true) (fun _ => rfl) rfl (by kernel_rfl) rfl ?_
  refine w_nil ?_
  refine xn_then ?_
  refine w_condT rfl ?_
  refine w_seq ?_
  refine w_reg ?_
  refine wl_build 24 [] [] (.agg #[.int .u64 0, .int .u64 0, .int .u64 0, .int .u64 0]) rfl rfl (by kernel_rfl) rfl ?_
  refine wl_st 24 (.tmp 2) (.tmp 10) k1 0 #[.int .u64 0, .int .u64 0, .int .u64 0, .int .u64 0] [.int .u64 0, .int .u64 0, .int .u64 0, .int .u64 0] [.int .u64 0, .int .u64 0, .int .u64 0, .int .u64 0] Q1 rfl rfl rfl rfl rfl sz24 rfl rfl rfl ?_
  intro w3 hS Qn
  replace Q1 := Qn
  clear Qn
  replace M := hS.mo _ N_k1 M
  clear hS
  refine wl_mv (.const (.int .i64 (10))) (.int .i64 (10)) (fun _ => rfl) rfl rfl ?_
  refine w_nil ?_
  refine xn_then ?_
  refine w_ret ?_
  refine xr_then ?_
  exact w_ret2 _ _ (.agg #[.int .u64 0, .int .u64 0, .int .u64 0, .int .u64 0]) (.int .i64 (10)) rfl ⟨k1, rfl, (run_row Q1 24 0 4 [.int .u64 0, .int .u64 0, .int .u64 0, .int .u64 0] rfl Try.underlying24 rfl sz24)⟩ rfl ⟨rfl, M⟩
theorem apd_c (s : ByteArray) (k : Nat) (w : World) {b : Bool} {h : k < s.size} (h0 : 0 ≤ pvk s k) (hv : pvk s k < MM) (h1 : 48 ≤ (s[k].toNat : Int)) (h2 : (s[k].toNat : Int) ≤ 57) (hf : decide (pvk s k * 10 + ((s[k].toNat : Int) - 48) < MM) = b) : Calls Try.prog 68 #[nv (pvk s k), .int .u8 (s[k].toNat : Int)] w fun e w' => e = .returned (.tuple #[nv (pvk s k * 10 + ((s[k].toNat : Int) - 48)), .bool b]) ∧ Mo w w' := by
  have := apd_any (pvk s k) (s[k].toNat : Int) w h0 hv h1 h2
  unfold fits at this
  rw [hf] at this
  exact this
theorem pvk_eq {s : ByteArray} {k m : Nat} (hk : k + m = s.size) (h : ¬ k < s.size) : pvk s k = pvk s s.size := by rw [show k = s.size by omega]
theorem pvk_end {s : ByteArray} {k m : Nat} (hk : k + m = s.size) (h : ¬ k < s.size) (hv : pvk s k < MM) : pvk s s.size < MM := by rw [← pvk_eq hk h]; exact hv
theorem parse_yes2 (s : ByteArray) (w : World) (hs : s.size ≤ maxLen) (hT : dgs s s.size) (hi : ∀ w, Calls Try.prog 67 #[.string s] w fun e w' => e = .returned (.bool true) ∧ Mo w w') : Calls Try.prog 20 #[.string s] w fun e w' => e = .returned (resP s) ∧ Mo w w' := by
  refine w_enter 29 Try.func20 Try.ntmps20 rfl rfl ?_
  have M : Mo w w := Mo.refl _
  refine w_seq ?_
  refine w_reg ?_
  refine wl_alloc 24 #[.int .u64 0, .int .u64 0, .int .u64 0, .int .u64 0] rfl (fun _ => by kernel_rfl) rfl ?_
  intro k1 w1 hk hz hq Q1
  have N_k1 : w.heap.size ≤ k1 := by have := M.size; omega
  replace M := M.trans hq
  clear hk hz hq
  refine wl_mv (.const (.int .i64 (0))) (.int .i64 (0)) (fun _ => rfl) rfl rfl ?_
  refine w_nil ?_
  refine xn_then ?_
  refine w_seq ?_
  refine w_seq ?_
  refine w_reg ?_
  refine wl_mv (.tmp 0) (.string s) (fun _ => rfl) rfl rfl ?_
  refine wl_call 67 [(.tmp 7)] _ [.string s] (.bool true) rfl rfl (fun _ _ => by kernel_rfl) (hi _) rfl ?_
  intro w2 hq
  replace Q1 := Q1.mo hq
  replace M := M.trans hq
  clear hq
  refine wl_un (fun v => Op.unary .not v) (.tmp 8) (.bool true) (.bool false) (fun _ => rfl) rfl (by kernel_rfl) rfl ?_
  refine w_nil ?_
  refine xn_then ?_
  refine w_condF rfl ?_
  refine w_skip ?_
  refine xn_then ?_
  refine w_seq ?_
  refine w_reg ?_
  refine wl_alloc 24 #[.int .u64 0, .int .u64 0, .int .u64 0, .int .u64 0] rfl (fun _ => by kernel_rfl) rfl ?_
  intro k2 w3 hk hz hq Q2
  have ne_k1_k2 : k1 ≠ k2 := by have := Q1.lt; omega
  have N_k2 : w.heap.size ≤ k2 := by have := M.size; omega
  replace Q1 := Q1.mo hq
  replace M := M.trans hq
  clear hk hz hq
  refine w_nil ?_
  refine xn_then ?_
  refine w_seq ?_
  refine w_seq ?_
  refine w_reg ?_
  refine wl_mv (.tmp 0) (.string s) (fun _ => rfl) rfl rfl ?_
  refine wl_val (.int .i64 ((s.size : Int))) (len_run _ _ s rfl _ _ _ _ _ _) rfl ?_
  refine wl_mv (.const (.int .i64 (0))) (.int .i64 (0)) (fun _ => rfl) rfl rfl ?_
  refine w_nil ?_
  refine xn_then ?_
  refine w_block ?_
  refine w_loop (fun m l w1 => ∃ k : Nat, k + m = s.size ∧ look l 0 = .string s ∧ look l 12 = .int .i64 (s.size : Int) ∧ look l 13 = .int .i64 (k : Int) ∧ look l 2 = pt k1 0 ∧ look l 4 = pt k2 0 ∧ At w1 k1 [.int .u64 0, .int .u64 0, .int .u64 0, .int .u64 0] ∧ At w1 k2 (nvli (pvk s k)) ∧ pvk s k < MM ∧ Mo w w1) s.size ⟨0, by omega, rfl, rfl, rfl, rfl, rfl, Q1, Q2, by rw [pvk_z]; decide, M⟩ ?_
  clear M Q1 Q2
  rintro m l wl ⟨k, hk, e0, e12, e13, e2, e4, Q1, Q2, hv, M⟩
  have hv0 := pvk_nn hT k (by omega)
  by_cases hlt : k < s.size
  · have hl : decide ((k : Int) < (s.size : Int)) = true := decide_eq_true (by omega)
    have hc := hT k hlt hlt
    cases hf : decide (pvk s k * 10 + ((s[k].toNat : Int) - 48) < MM) with
    | true =>
      refine w_seq ?_
      refine w_reg ?_
      refine wl_bin (fun x y => do eqGuard .lss 3 (.tmp 13) (.tmp 12) x y; binOp .lss 3 x y) (.tmp 13) (.tmp 12) (.int .i64 ((k : Int))) (.int .i64 ((s.size : Int))) (.bool true) (fun _ => rfl) e13 e12 (lt3_run hl _ _ _) rfl ?_
      refine w_nil ?_
      refine xn_then ?_
      refine w_seq ?_
      refine w_condT rfl ?_
      refine w_skip ?_
      refine xn_then ?_
      refine w_seq ?_
      refine w_block ?_
      refine w_seq ?_
      refine w_reg ?_
      refine wl_mv (.tmp 13) (.int .i64 ((k : Int))) (fun _ => rfl) e13 rfl ?_
      refine wl_mv (.tmp 15) (.int .i64 ((k : Int))) (fun _ => rfl) rfl rfl ?_
      refine w_nil ?_
      refine xn_then ?_
      refine w_seq ?_
      refine w_reg ?_
      refine wl_mv (.const (.bool false)) (.bool false) (fun _ => rfl) rfl rfl ?_
      refine w_nil ?_
      refine xn_then ?_
      refine w_seq ?_
      refine w_any 8 [.inl (nv (pvk s k)), .inl (.string s), .inl (.int .i64 ((k : Int))), .inl (.int .u8 (s[k].toNat : Int)), .inl (.tuple #[nv (pvk s k * 10 + ((s[k].toNat : Int) - 48)), .bool true]), .inl (.tuple #[nv (pvk s k * 10 + ((s[k].toNat : Int) - 48)), .bool true]), .inl (nv (pvk s k * 10 + ((s[k].toNat : Int) - 48))), .inl (.bool true)] [7] (by kernel_rfl) (by kernel_rfl) (by kernel_rfl) (by kernel_rfl) rfl (by kernel_rfl) (by kernel_rfl) (late_cons ⟨_, _, rfl, rfl, fun _ _ _ _ h => h, fun f hd => ⟨rfl, la_un (fun v => Instr.extract v 1) (.tmp 16) (.tuple #[nv (pvk s k * 10 + ((s[k].toNat : Int) - 48)), .bool true]) (.bool true) (fun _ => rfl) (hd 5 rfl _ rfl) (fun w => by kernel_rfl)⟩⟩ late_nil) ?_ ?_ ?_
      · exact Ds.none rfl
      · refine ea_cons ?_ (ea_cons ?_ (ea_cons ?_ (ea_cons ?_ (ea_cons ?_ (ea_cons ?_ (ea_cons ?_ (ea_cons ?_ (ea_nil))))))))
        · exact og_eq (nv (pvk s k)) rfl (fun f wf hq hd K hK => have Q2 := Q2.mo hq; go_run rfl (wo_load 24 (.tmp 4) (pt k2 0) (nv (pvk s k)) rfl e4 (run_row Q2 24 0 4 (nvli (pvk s k)) rfl Try.underlying24 rfl sz24) (hK _ (Mo.refl _))))
        · exact og_eq (.string s) rfl (fun f wf hq hd K hK => go_run rfl (wo_mv (.tmp 0) (.string s) (fun _ => rfl) e0 (hK _ (Mo.refl _))))
        · exact og_eq (.int .i64 ((k : Int))) rfl (fun f wf hq hd K hK => go_run rfl (wo_mv (.tmp 5) (.int .i64 ((k : Int))) (fun _ => rfl) rfl (hK _ (Mo.refl _))))
        · exact og_eq (.int .u8 (s[k].toNat : Int)) rfl (fun f wf hq hd K hK => go_run rfl (wo_bin (fun x y => Instr.index 9 x y) (.tmp 18) (.tmp 19) (.string s) (.int .i64 ((k : Int))) (.int .u8 (s[k].toNat : Int)) (fun _ => rfl) (hd 1 rfl) (hd 2 rfl) (idx_s s k hlt _) (hK _ (Mo.refl _))))
        · exact og_eq (.tuple #[nv (pvk s k * 10 + ((s[k].toNat : Int) - 48)), .bool true]) rfl (fun f wf hq hd K hK => go_run rfl (wo_call 68 [(.tmp 17), (.tmp 20)] _ [nv (pvk s k), .int .u8 (s[k].toNat : Int)] (.tuple #[nv (pvk s k * 10 + ((s[k].toNat : Int) - 48)), .bool true]) rfl (li2 (hd 0 rfl) (hd 3 rfl)) (fun _ _ => by kernel_rfl) (apd_c s k _ hv0 hv hc.1 hc.2 hf) hK))
        · exact og_eq (.tuple #[nv (pvk s k * 10 + ((s[k].toNat : Int) - 48)), .bool true]) rfl (fun f wf hq hd K hK => go_run rfl (wo_mv (.tmp 21) (.tuple #[nv (pvk s k * 10 + ((s[k].toNat : Int) - 48)), .bool true]) (fun _ => rfl) (hd 4 rfl) (hK _ (Mo.refl _))))
        · exact og_eq (nv (pvk s k * 10 + ((s[k].toNat : Int) - 48))) rfl (fun f wf hq hd K hK => go_run rfl (wo_un (fun v => Instr.extract v 0) (.tmp 16) (.tuple #[nv (pvk s k * 10 + ((s[k].toNat : Int) - 48)), .bool true]) (nv (pvk s k * 10 + ((s[k].toNat : Int) - 48))) (fun _ => rfl) (hd 5 rfl) (by kernel_rfl) (hK _ (Mo.refl _))))
        · exact og_eq (.bool true) rfl (fun f wf hq hd K hK => go_run rfl (wo_un (fun v => Instr.extract v 1) (.tmp 16) (.tuple #[nv (pvk s k * 10 + ((s[k].toNat : Int) - 48)), .bool true]) (.bool true) (fun _ => rfl) (hd 5 rfl) (by kernel_rfl) (hK _ (Mo.refl _))))
      intro kf51 w51 hq hR hne
      replace Q1 := Q1.mo hq
      replace Q2 := Q2.mo hq
      replace M := M.trans hq
      clear hq hR hne
      refine wl_st 24 (.tmp 4) (.tmp 22) k2 0 (nvar (pvk s k * 10 + ((s[k].toNat : Int) - 48))) (nvli (pvk s k)) (nvli (pvk s k * 10 + ((s[k].toNat : Int) - 48))) Q2 rfl rfl e4 rfl rfl sz24 rfl rfl rfl ?_
      intro w52 hS Qn
      replace Q2 := Qn
      clear Qn
      replace Q1 := hS.other _ _ ne_k1_k2 Q1
      replace M := hS.mo _ N_k2 M
      clear hS
      refine wl_mv (.tmp 23) (.bool true) (fun _ => rfl) rfl rfl ?_
      refine w_nil ?_
      refine xn_then ?_
      refine w_seq ?_
      refine w_reg ?_
      refine wl_mv (.tmp 6) (.bool true) (fun _ => rfl) rfl rfl ?_
      refine wl_un (fun v => Op.unary .not v) (.tmp 24) (.bool true) (.bool false) (fun _ => rfl) rfl (by kernel_rfl) rfl ?_
      refine w_nil ?_
      refine xn_then ?_
      refine w_condF rfl ?_
      refine w_skip ?_
      refine xn_blk ?_
      refine xn_then ?_
      refine w_reg ?_
      refine wl_bin (fun x y => do eqGuard .add 3 (.tmp 13) (.const (.int .i64 (1))) x y; binOp .add 3 x y) (.tmp 13) (.const (.int .i64 (1))) (.int .i64 ((k : Int))) (.int .i64 (1)) (.int .i64 (((k + 1 : Nat) : Int))) (fun _ => rfl) e13 rfl (add1_run (by unfold maxLen at hs; omega) _ _ _) rfl ?_
      refine wl_mv (.tmp 27) (.int .i64 (((k + 1 : Nat) : Int))) (fun _ => rfl) rfl rfl ?_
      refine w_nil ?_
      exact xn_loop (s.size - (k + 1)) (by omega) ⟨k + 1, by omega, e0, e12, rfl, e2, e4, Q1, by rw [pvk_succ s k hlt]; exact Q2, by rw [pvk_succ s k hlt]; exact of_decide_eq_true hf, M⟩
    | false =>
      refine w_seq ?_
      refine w_reg ?_
      refine wl_bin (fun x y => do eqGuard .lss 3 (.tmp 13) (.tmp 12) x y; binOp .lss 3 x y) (.tmp 13) (.tmp 12) (.int .i64 ((k : Int))) (.int .i64 ((s.size : Int))) (.bool true) (fun _ => rfl) e13 e12 (lt3_run hl _ _ _) rfl ?_
      refine w_nil ?_
      refine xn_then ?_
      refine w_seq ?_
      refine w_condT rfl ?_
      refine w_skip ?_
      refine xn_then ?_
      refine w_seq ?_
      refine w_block ?_
      refine w_seq ?_
      refine w_reg ?_
      refine wl_mv (.tmp 13) (.int .i64 ((k : Int))) (fun _ => rfl) e13 rfl ?_
      refine wl_mv (.tmp 15) (.int .i64 ((k : Int))) (fun _ => rfl) rfl rfl ?_
      refine w_nil ?_
      refine xn_then ?_
      refine w_seq ?_
      refine w_reg ?_
      refine wl_mv (.const (.bool false)) (.bool false) (fun _ => rfl) rfl rfl ?_
      refine w_nil ?_
      refine xn_then ?_
      refine w_seq ?_
      refine w_any 8 [.inl (nv (pvk s k)), .inl (.string s), .inl (.int .i64 ((k : Int))), .inl (.int .u8 (s[k].toNat : Int)), .inl (.tuple #[nv (pvk s k * 10 + ((s[k].toNat : Int) - 48)), .bool false]), .inl (.tuple #[nv (pvk s k * 10 + ((s[k].toNat : Int) - 48)), .bool false]), .inl (nv (pvk s k * 10 + ((s[k].toNat : Int) - 48))), .inl (.bool false)] [7] (by kernel_rfl) (by kernel_rfl) (by kernel_rfl) (by kernel_rfl) rfl (by kernel_rfl) (by kernel_rfl) (late_cons ⟨_, _, rfl, rfl, fun _ _ _ _ h => h, fun f hd => ⟨rfl, la_un (fun v => Instr.extract v 1) (.tmp 16) (.tuple #[nv (pvk s k * 10 + ((s[k].toNat : Int) - 48)), .bool false]) (.bool false) (fun _ => rfl) (hd 5 rfl _ rfl) (fun w => by kernel_rfl)⟩⟩ late_nil) ?_ ?_ ?_
      · exact Ds.none rfl
      · refine ea_cons ?_ (ea_cons ?_ (ea_cons ?_ (ea_cons ?_ (ea_cons ?_ (ea_cons ?_ (ea_cons ?_ (ea_cons ?_ (ea_nil))))))))
        · exact og_eq (nv (pvk s k)) rfl (fun f wf hq hd K hK => have Q2 := Q2.mo hq; go_run rfl (wo_load 24 (.tmp 4) (pt k2 0) (nv (pvk s k)) rfl e4 (run_row Q2 24 0 4 (nvli (pvk s k)) rfl Try.underlying24 rfl sz24) (hK _ (Mo.refl _))))
        · exact og_eq (.string s) rfl (fun f wf hq hd K hK => go_run rfl (wo_mv (.tmp 0) (.string s) (fun _ => rfl) e0 (hK _ (Mo.refl _))))
        · exact og_eq (.int .i64 ((k : Int))) rfl (fun f wf hq hd K hK => go_run rfl (wo_mv (.tmp 5) (.int .i64 ((k : Int))) (fun _ => rfl) rfl (hK _ (Mo.refl _))))
        · exact og_eq (.int .u8 (s[k].toNat : Int)) rfl (fun f wf hq hd K hK => go_run rfl (wo_bin (fun x y => Instr.index 9 x y) (.tmp 18) (.tmp 19) (.string s) (.int .i64 ((k : Int))) (.int .u8 (s[k].toNat : Int)) (fun _ => rfl) (hd 1 rfl) (hd 2 rfl) (idx_s s k hlt _) (hK _ (Mo.refl _))))
        · exact og_eq (.tuple #[nv (pvk s k * 10 + ((s[k].toNat : Int) - 48)), .bool false]) rfl (fun f wf hq hd K hK => go_run rfl (wo_call 68 [(.tmp 17), (.tmp 20)] _ [nv (pvk s k), .int .u8 (s[k].toNat : Int)] (.tuple #[nv (pvk s k * 10 + ((s[k].toNat : Int) - 48)), .bool false]) rfl (li2 (hd 0 rfl) (hd 3 rfl)) (fun _ _ => by kernel_rfl) (apd_c s k _ hv0 hv hc.1 hc.2 hf) hK))
        · exact og_eq (.tuple #[nv (pvk s k * 10 + ((s[k].toNat : Int) - 48)), .bool false]) rfl (fun f wf hq hd K hK => go_run rfl (wo_mv (.tmp 21) (.tuple #[nv (pvk s k * 10 + ((s[k].toNat : Int) - 48)), .bool false]) (fun _ => rfl) (hd 4 rfl) (hK _ (Mo.refl _))))
        · exact og_eq (nv (pvk s k * 10 + ((s[k].toNat : Int) - 48))) rfl (fun f wf hq hd K hK => go_run rfl (wo_un (fun v => Instr.extract v 0) (.tmp 16) (.tuple #[nv (pvk s k * 10 + ((s[k].toNat : Int) - 48)), .bool false]) (nv (pvk s k * 10 + ((s[k].toNat : Int) - 48))) (fun _ => rfl) (hd 5 rfl) (by kernel_rfl) (hK _ (Mo.refl _))))
        · exact og_eq (.bool false) rfl (fun f wf hq hd K hK => go_run rfl (wo_un (fun v => Instr.extract v 1) (.tmp 16) (.tuple #[nv (pvk s k * 10 + ((s[k].toNat : Int) - 48)), .bool false]) (.bool false) (fun _ => rfl) (hd 5 rfl) (by kernel_rfl) (hK _ (Mo.refl _))))
      intro kf51 w51 hq hR hne
      replace Q1 := Q1.mo hq
      replace Q2 := Q2.mo hq
      replace M := M.trans hq
      clear hq hR hne
      refine wl_st 24 (.tmp 4) (.tmp 22) k2 0 (nvar (pvk s k * 10 + ((s[k].toNat : Int) - 48))) (nvli (pvk s k)) (nvli (pvk s k * 10 + ((s[k].toNat : Int) - 48))) Q2 rfl rfl e4 rfl rfl sz24 rfl rfl rfl ?_
      intro w52 hS Qn
      replace Q2 := Qn
      clear Qn
      replace Q1 := hS.other _ _ ne_k1_k2 Q1
      replace M := hS.mo _ N_k2 M
      clear hS
      refine wl_mv (.tmp 23) (.bool false) (fun _ => rfl) rfl rfl ?_
      refine w_nil ?_
      refine xn_then ?_
      refine w_seq ?_
      refine w_reg ?_
      refine wl_mv (.tmp 6) (.bool false) (fun _ => rfl) rfl rfl ?_
      refine wl_un (fun v => Op.unary .not v) (.tmp 24) (.bool false) (.bool true) (fun _ => rfl) rfl (by kernel_rfl) rfl ?_
      refine w_nil ?_
      refine xn_then ?_
      refine w_condT rfl ?_
      refine w_seq ?_
      refine w_reg ?_
      refine wl_build 24 [] [] (.agg #[.int .u64 0, .int .u64 0, .int .u64 0, .int .u64 0]) rfl rfl (by kernel_rfl) rfl ?_
      refine wl_st 24 (.tmp 2) (.tmp 26) k1 0 #[.int .u64 0, .int .u64 0, .int .u64 0, .int .u64 0] [.int .u64 0, .int .u64 0, .int .u64 0, .int .u64 0] [.int .u64 0, .int .u64 0, .int .u64 0, .int .u64 0] Q1 rfl rfl e2 rfl rfl sz24 rfl rfl rfl ?_
      intro w53 hS Qn
      replace Q1 := Qn
      clear Qn
      replace Q2 := hS.other _ _ ne_k1_k2.symm Q2
      replace M := hS.mo _ N_k1 M
      clear hS
      refine wl_mv (.const (.int .i64 (7))) (.int .i64 (7)) (fun _ => rfl) rfl rfl ?_
      refine w_nil ?_
      refine xn_then ?_
      refine w_ret ?_
      refine xr_blk ?_
      refine xr_then ?_
      refine xr_then ?_
      refine xr_blk ?_
      refine xr_then ?_
      exact w_ret2 _ _ (.agg #[.int .u64 0, .int .u64 0, .int .u64 0, .int .u64 0]) (.int .i64 (7)) rfl ⟨k1, e2, (run_row Q1 24 0 4 [.int .u64 0, .int .u64 0, .int .u64 0, .int .u64 0] rfl Try.underlying24 rfl sz24)⟩ rfl ⟨by rw [resP_over hT hlt (of_decide_eq_false hf)], M⟩
  · have hl : decide ((k : Int) < (s.size : Int)) = false := decide_eq_false (by omega)
    refine w_seq ?_
    refine w_reg ?_
    refine wl_bin (fun x y => do eqGuard .lss 3 (.tmp 13) (.tmp 12) x y; binOp .lss 3 x y) (.tmp 13) (.tmp 12) (.int .i64 ((k : Int))) (.int .i64 ((s.size : Int))) (.bool false) (fun _ => rfl) e13 e12 (lt3_run hl _ _ _) rfl ?_
    refine w_nil ?_
    refine xn_then ?_
    refine w_seq ?_
    refine w_condF rfl ?_
    refine w_exit ?_
    refine xx_then ?_
    refine xx_then ?_
    refine xx_blk ?_
    refine xn_then ?_
    refine w_seq ?_
    refine w_reg ?_
    refine wl_load 24 (.tmp 4) (pt k2 0) (nv (pvk s k)) rfl e4 (run_row Q2 24 0 4 (nvli (pvk s k)) rfl Try.underlying24 rfl sz24) rfl ?_
    refine wl_st 24 (.tmp 2) (.tmp 28) k1 0 (nvar (pvk s k)) [.int .u64 0, .int .u64 0, .int .u64 0, .int .u64 0] (nvli (pvk s k)) Q1 rfl rfl e2 rfl rfl sz24 rfl rfl rfl ?_
    intro w51 hS Qn
    replace Q1 := Qn
    clear Qn
    replace Q2 := hS.other _ _ ne_k1_k2.symm Q2
    replace M := hS.mo _ N_k1 M
    clear hS
    refine wl_mv (.const (.int .i64 (0))) (.int .i64 (0)) (fun _ => rfl) rfl rfl ?_
    refine w_nil ?_
    refine xn_then ?_
    refine w_ret ?_
    exact w_ret2 _ _ (nv (pvk s k)) (.int .i64 (0)) rfl ⟨k1, e2, (run_row Q1 24 0 4 (nvli (pvk s k)) rfl Try.underlying24 rfl sz24)⟩ rfl ⟨by rw [resP_ok (pvk_end hk hlt hv), ← pvk_eq hk hlt], M⟩
theorem parse_n (s : ByteArray) (w : World) [Decidable (isT s)] (hs : s.size ≤ maxLen) : Calls Try.prog 20 #[.string s] w fun e w' => e = .returned (if isT s then resP s else ez 10) ∧ Mo w w' := by
  have hi := fun w => isd_n s w hs
  by_cases h : isT s
  · rw [if_pos h]
    rw [decide_eq_true h] at hi
    exact parse_yes2 s w hs h.2.2 hi
  · rw [if_neg h]
    rw [decide_eq_false h] at hi
    exact parse_no s w hi
theorem rparse_emp (s : ByteArray) (w : World) (h0 : s.toList.isEmpty = true) : Calls Try.prog 21 #[.string s] w fun e w' => e = .returned (ez 10) ∧ Mo w w' := by
  refine w_enter 77 Try.func21 Try.ntmps21 rfl rfl ?_
  have M : Mo w w := Mo.refl _
  refine w_seq ?_
  refine w_reg ?_
  refine wl_alloc 24 #[.int .u64 0, .int .u64 0, .int .u64 0, .int .u64 0] rfl (fun _ => by kernel_rfl) rfl ?_
  intro k1 w1 hk hz hq Q1
  have N_k1 : w.heap.size ≤ k1 := by have := M.size; omega
  replace M := M.trans hq
  clear hk hz hq
  refine wl_mv (.const (.int .i64 (0))) (.int .i64 (0)) (fun _ => rfl) rfl rfl ?_
  refine w_nil ?_
  refine xn_then ?_
  refine w_seq ?_
  refine w_seq ?_
  refine w_reg ?_
  refine wl_mv (.tmp 0) (.string s) (fun _ => rfl) rfl rfl ?_
  refine wl_bin (fun x y => do eqGuard .eql 9 (.tmp 11) (.const (.string ⟨#[]⟩)) x y; binOp .eql 9 x y) (.tmp 11) (.const (.string ⟨#[]⟩)) (.string s) (.string ⟨#[]⟩) (.bool true) (fun _ => rfl) rfl rfl (eqe_run h0 _ _ _) rfl ?_
  refine wl_mv (.tmp 12) (.bool true) (fun _ => rfl) rfl rfl ?_
  refine wl_skip rfl ?_
  refine wl_skip rfl ?_
  refine wl_skip rfl ?_
  refine wl_skip rfl ?_
  refine wl_skip rfl ?_
  refine wl_skip rfl ?_
  refine wl_skip rfl ?_
  refine wl_skip rfl ?_
  refine wl_pick (.tmp 13) (.const (.bool true)) (.tmp 21) true (.bool true) (fun _ => rfl) rfl rfl rfl ?_
  refine w_nil ?_
  refine xn_then ?_
  refine w_condT rfl ?_
  refine w_seq ?_
  refine w_reg ?_
  refine wl_build 24 [] [] (.agg #[.int .u64 0, .int .u64 0, .int .u64 0, .int .u64 0]) rfl rfl (by kernel_rfl) rfl ?_
  refine wl_st 24 (.tmp 2) (.tmp 23) k1 0 #[.int .u64 0, .int .u64 0, .int .u64 0, .int .u64 0] [.int .u64 0, .int .u64 0, .int .u64 0, .int .u64 0] [.int .u64 0, .int .u64 0, .int .u64 0, .int .u64 0] Q1 rfl rfl rfl rfl rfl sz24 rfl rfl rfl ?_
  intro w2 hS Qn
  replace Q1 := Qn
  clear Qn
  replace M := hS.mo _ N_k1 M
  clear hS
  refine wl_mv (.const (.int .i64 (10))) (.int .i64 (10)) (fun _ => rfl) rfl rfl ?_
  refine w_nil ?_
  refine xn_then ?_
  refine w_ret ?_
  refine xr_then ?_
  exact w_ret2 _ _ (.agg #[.int .u64 0, .int .u64 0, .int .u64 0, .int .u64 0]) (.int .i64 (10)) rfl ⟨k1, rfl, (run_row Q1 24 0 4 [.int .u64 0, .int .u64 0, .int .u64 0, .int .u64 0] rfl Try.underlying24 rfl sz24)⟩ rfl ⟨rfl, M⟩
theorem rparse_lead (s : ByteArray) (w : World) (h0 : s.toList.isEmpty = false) (hp : 0 < s.size) (h1 : decide ((s.size : Int) > 1) = true) (hz : ((s[0].toNat : Int) == 48) = true) : Calls Try.prog 21 #[.string s] w fun e w' => e = .returned (ez 10) ∧ Mo w w' := by
  refine w_enter 77 Try.func21 Try.ntmps21 rfl rfl ?_
  have M : Mo w w := Mo.refl _
  refine w_seq ?_
  refine w_reg ?_
  refine wl_alloc 24 #[.int .u64 0, .int .u64 0, .int .u64 0, .int .u64 0] rfl (fun _ => by kernel_rfl) rfl ?_
  intro k1 w1 hk hz hq Q1
  have N_k1 : w.heap.size ≤ k1 := by have := M.size; omega
  replace M := M.trans hq
  clear hk hz hq
  refine wl_mv (.const (.int .i64 (0))) (.int .i64 (0)) (fun _ => rfl) rfl rfl ?_
  refine w_nil ?_
  refine xn_then ?_
  refine w_seq ?_
  refine w_seq ?_
  refine w_reg ?_
  refine wl_mv (.tmp 0) (.string s) (fun _ => rfl) rfl rfl ?_
  refine wl_bin (fun x y => do eqGuard .eql 9 (.tmp 11) (.const (.string ⟨#[]⟩)) x y; binOp .eql 9 x y) (.tmp 11) (.const (.string ⟨#[]⟩)) (.string s) (.string ⟨#[]⟩) (.bool false) (fun _ => rfl) rfl rfl (eqe_run h0 _ _ _) rfl ?_
  refine wl_mv (.tmp 12) (.bool false) (fun _ => rfl) rfl rfl ?_
  refine wl_mv (.tmp 0) (.string s) (fun _ => rfl) rfl rfl ?_
  refine wl_bin (fun x y => Instr.index 9 x y) (.tmp 14) (.const (.int .i64 (0))) (.string s) (.int .i64 (0)) (.int .u8 (s[0].toNat : Int)) (fun _ => rfl) rfl rfl (idx_0 s hp _) rfl ?_
  refine wl_bin (fun x y => do eqGuard .eql 5 (.tmp 15) (.const (.int .u8 (48))) x y; binOp .eql 5 x y) (.tmp 15) (.const (.int .u8 (48))) (.int .u8 (s[0].toNat : Int)) (.int .u8 (48)) (.bool true) (fun _ => rfl) rfl rfl (eq5_run hz _ _ _) rfl ?_
  refine wl_mv (.tmp 16) (.bool true) (fun _ => rfl) rfl rfl ?_
  refine wl_mv (.tmp 0) (.string s) (fun _ => rfl) rfl rfl ?_
  refine wl_val (.int .i64 ((s.size : Int))) (len_run _ _ s rfl _ _ _ _ _ _) rfl ?_
  refine wl_bin (fun x y => do eqGuard .gtr 3 (.tmp 19) (.const (.int .i64 (1))) x y; binOp .gtr 3 x y) (.tmp 19) (.const (.int .i64 (1))) (.int .i64 ((s.size : Int))) (.int .i64 (1)) (.bool true) (fun _ => rfl) rfl rfl (gt3_run h1 _ _ _) rfl ?_
  refine wl_pick (.tmp 17) (.tmp 20) (.const (.bool false)) true (.bool true) (fun _ => rfl) rfl rfl rfl ?_
  refine wl_pick (.tmp 13) (.const (.bool true)) (.tmp 21) false (.bool true) (fun _ => rfl) rfl rfl rfl ?_
  refine w_nil ?_
  refine xn_then ?_
  refine w_condT rfl ?_
  refine w_seq ?_
  refine w_reg ?_
  refine wl_build 24 [] [] (.agg #[.int .u64 0, .int .u64 0, .int .u64 0, .int .u64 0]) rfl rfl (by kernel_rfl) rfl ?_
  refine wl_st 24 (.tmp 2) (.tmp 23) k1 0 #[.int .u64 0, .int .u64 0, .int .u64 0, .int .u64 0] [.int .u64 0, .int .u64 0, .int .u64 0, .int .u64 0] [.int .u64 0, .int .u64 0, .int .u64 0, .int .u64 0] Q1 rfl rfl rfl rfl rfl sz24 rfl rfl rfl ?_
  intro w2 hS Qn
  replace Q1 := Qn
  clear Qn
  replace M := hS.mo _ N_k1 M
  clear hS
  refine wl_mv (.const (.int .i64 (10))) (.int .i64 (10)) (fun _ => rfl) rfl rfl ?_
  refine w_nil ?_
  refine xn_then ?_
  refine w_ret ?_
  refine xr_then ?_
  exact w_ret2 _ _ (.agg #[.int .u64 0, .int .u64 0, .int .u64 0, .int .u64 0]) (.int .i64 (10)) rfl ⟨k1, rfl, (run_row Q1 24 0 4 [.int .u64 0, .int .u64 0, .int .u64 0, .int .u64 0] rfl Try.underlying24 rfl sz24)⟩ rfl ⟨rfl, M⟩
theorem dgs_end {s : ByteArray} {k m : Nat} (hk : k + m = s.size) (h : ¬ k < s.size) (hd : dgs s k) : dgs s s.size := by rw [show s.size = k by omega]; exact hd
theorem npt {v : Value} {k : Nat} (h : isPt v = false) (e : v = pt k 0) : False := by rw [e] at h; cases h
theorem hi0z {X : Int} (h0 : 0 ≤ X) (h : X < MM) : (l0 (X / MM) == 0 && (l1 (X / MM) == 0 && (l2 (X / MM) == 0 && l3 (X / MM) == 0))) = true := by
  rw [Int.ediv_eq_zero_of_lt h0 h]; rfl
theorem hi1z {X : Int} (h : MM ≤ X) (h2 : X < MM * MM) : (l0 (X / MM) == 0 && (l1 (X / MM) == 0 && (l2 (X / MM) == 0 && l3 (X / MM) == 0))) = false := by
  have p : (0 : Int) < MM := by decide
  have a : 1 ≤ X / MM := Int.le_ediv_of_mul_le p (by omega)
  rw [zb (by omega) (Int.ediv_lt_of_lt_mul p h2)]; exact decide_eq_false (by omega)
theorem rsum_any (A d : Int) : ∃ (Z : Int) (o : Bool), ∀ w, Calls Try.prog 64 #[nv A, nv d] w fun e w' => e = .returned (.tuple #[nv Z, .bool o]) ∧ Mo w w' := ⟨_, _, fun w => radd_m A d w⟩
theorem rsum_ok (A d Z : Int) (w : World) (h0 : 0 ≤ A) (hd : 0 ≤ d) (hZ : Z = A + d) (h : A < MM) (h2 : A + d < MM) : Calls Try.prog 64 #[nv A, nv d] w fun e w' => e = .returned (.tuple #[nv Z, .bool false]) ∧ Mo w w' := by
  have := radd_n A d w h0 h hd (by omega)
  have e : ov (A + d) = false := decide_eq_false (by omega)
  rw [e, ← hZ] at this
  exact this
theorem rsum_ov (A d : Int) (h0 : 0 ≤ A) (hd : 0 ≤ d) (hd2 : d < 10) (h : A < MM) (h2 : ¬ A + d < MM) : ∃ Z : Int, ∀ w, Calls Try.prog 64 #[nv A, nv d] w fun e w' => e = .returned (.tuple #[nv Z, .bool true]) ∧ Mo w w' := ⟨A + d, fun w => by
  have := radd_n A d w h0 h hd (by unfold MM; omega)
  have e : ov (A + d) = true := decide_eq_true (by omega)
  rw [e] at this
  exact this⟩
theorem pvk_big {s : ByteArray} (hp : 0 < s.size) (hd : dgs s s.size) (hz : (s[0].toNat : Int) ≠ 48) : ∀ k, k + 1 ≤ s.size → (10 : Int) ^ k ≤ pvk s (k + 1)
  | 0, _ => by
    rw [pvk_succ s 0 hp]
    have := hd 0 hp hp
    have e : pvk s 0 = 0 := by unfold pvk pv; simp
    rw [e]; simp; omega
  | k + 1, h => by
    rw [pvk_succ s (k + 1) (by omega), Int.pow_succ]
    have := pvk_big hp hd hz k (by omega)
    have := hd (k + 1) (by omega) (by omega)
    omega
theorem resP_long {s : ByteArray} (hp : 0 < s.size) (hd : dgs s s.size) (hz : s.size > 1 → (s[0].toNat : Int) ≠ 48) (h : s.size > 78) : resP s = ez 7 := by
  unfold resP
  rw [if_neg]
  have a : (10 : Int) ^ 78 ≤ pvk s 79 := pvk_big hp hd (hz (by omega)) 78 (by omega)
  have b := pvk_le hd (s.size - 79) 79 (by omega)
  have c : MM ≤ (10 : Int) ^ 78 := by decide
  omega
theorem rparse_a (s : ByteArray) (w : World) [Decidable (isT s)] (hs : s.size ≤ maxLen) (h0 : s.toList.isEmpty = false) (hp : 0 < s.size) (hlead : ¬ (s.size > 1 ∧ (s[0].toNat : Int) = 48)) (hz0 : s.size > 1 → (s[0].toNat : Int) ≠ 48) (h1 : ((s[0].toNat : Int) == 48) = false) : Calls Try.prog 21 #[.string s] w fun e w' => e = .returned (if isT s then resP s else ez 10) ∧ Mo w w' := by
  refine w_enter 77 Try.func21 Try.ntmps21 rfl rfl ?_
  have M : Mo w w := Mo.refl _
  refine w_seq ?_
  refine w_reg ?_
  refine wl_alloc 24 #[.int .u64 0, .int .u64 0, .int .u64 0, .int .u64 0] rfl (fun _ => by kernel_rfl) rfl ?_
  intro k1 w1 hk hz hq Q1
  have N_k1 : w.heap.size ≤ k1 := by have := M.size; omega
  replace M := M.trans hq
  clear hk hz hq
  refine wl_mv (.const (.int .i64 (0))) (.int .i64 (0)) (fun _ => rfl) rfl rfl ?_
  refine w_nil ?_
  refine xn_then ?_
  refine w_seq ?_
  refine w_seq ?_
  refine w_reg ?_
  refine wl_mv (.tmp 0) (.string s) (fun _ => rfl) rfl rfl ?_
  refine wl_bin (fun x y => do eqGuard .eql 9 (.tmp 11) (.const (.string ⟨#[]⟩)) x y; binOp .eql 9 x y) (.tmp 11) (.const (.string ⟨#[]⟩)) (.string s) (.string ⟨#[]⟩) (.bool false) (fun _ => rfl) rfl rfl (eqe_run h0 _ _ _) rfl ?_
  refine wl_mv (.tmp 12) (.bool false) (fun _ => rfl) rfl rfl ?_
  refine wl_mv (.tmp 0) (.string s) (fun _ => rfl) rfl rfl ?_
  refine wl_bin (fun x y => Instr.index 9 x y) (.tmp 14) (.const (.int .i64 (0))) (.string s) (.int .i64 (0)) (.int .u8 (s[0].toNat : Int)) (fun _ => rfl) rfl rfl (idx_0 s hp _) rfl ?_
  refine wl_bin (fun x y => do eqGuard .eql 5 (.tmp 15) (.const (.int .u8 (48))) x y; binOp .eql 5 x y) (.tmp 15) (.const (.int .u8 (48))) (.int .u8 (s[0].toNat : Int)) (.int .u8 (48)) (.bool false) (fun _ => rfl) rfl rfl (eq5_run h1 _ _ _) rfl ?_
  refine wl_mv (.tmp 16) (.bool false) (fun _ => rfl) rfl rfl ?_
  refine wl_skip rfl ?_
  refine wl_skip rfl ?_
  refine wl_skip rfl ?_
  refine wl_pick (.tmp 17) (.tmp 20) (.const (.bool false)) false (.bool false) (fun _ => rfl) rfl rfl rfl ?_
  refine wl_pick (.tmp 13) (.const (.bool true)) (.tmp 21) false (.bool false) (fun _ => rfl) rfl rfl rfl ?_
  refine w_nil ?_
  refine xn_then ?_
  refine w_condF rfl ?_
  refine w_skip ?_
  refine xn_then ?_
  refine w_seq ?_
  refine w_seq ?_
  refine w_reg ?_
  refine wl_mv (.const (.int .i64 (0))) (.int .i64 (0)) (fun _ => rfl) rfl rfl ?_
  refine w_nil ?_
  refine xn_then ?_
  refine w_block ?_
  refine w_loop (fun m l w1 => ∃ k : Nat, k + m = s.size ∧ look l 0 = .string s ∧ look l 4 = .int .i64 (k : Int) ∧ look l 2 = pt k1 0 ∧ At w1 k1 [.int .u64 0, .int .u64 0, .int .u64 0, .int .u64 0] ∧ dgs s k ∧ Mo w w1 ∧ (isPt (look l 7) = false ∧ isPt (look l 8) = false ∧ isPt (look l 9) = false)) s.size ⟨0, by omega, rfl, rfl, rfl, Q1, fun j _ h => absurd h (Nat.not_lt_zero _), M, rfl, rfl, rfl⟩ ?_
  clear M Q1
  rintro m l wl ⟨k, hk, e0, e4, e2, Q1, hd, M, i7, i8, i9⟩
  by_cases hlt : k < s.size
  · have hl : decide ((k : Int) < (s.size : Int)) = true := decide_eq_true (by omega)
    cases ha : decide ((s[k].toNat : Int) < 48) with
    | true =>
      refine w_seq ?_
      refine w_seq ?_
      refine w_reg ?_
      refine wl_mv (.tmp 4) (.int .i64 ((k : Int))) (fun _ => rfl) e4 rfl ?_
      refine wl_mv (.tmp 0) (.string s) (fun _ => rfl) e0 rfl ?_
      refine wl_val (.int .i64 ((s.size : Int))) (len_run _ _ s rfl _ _ _ _ _ _) rfl ?_
      refine wl_bin (fun x y => do eqGuard .lss 3 (.tmp 24) (.tmp 26) x y; binOp .lss 3 x y) (.tmp 24) (.tmp 26) (.int .i64 ((k : Int))) (.int .i64 ((s.size : Int))) (.bool true) (fun _ => rfl) rfl rfl (lt3_run hl _ _ _) rfl ?_
      refine w_nil ?_
      refine xn_then ?_
      refine w_condT rfl ?_
      refine w_skip ?_
      refine xn_then ?_
      refine w_seq ?_
      refine w_block ?_
      refine w_seq ?_
      refine w_reg ?_
      refine wl_mv (.tmp 0) (.string s) (fun _ => rfl) e0 rfl ?_
      refine wl_mv (.tmp 4) (.int .i64 ((k : Int))) (fun _ => rfl) e4 rfl ?_
      refine wl_bin (fun x y => Instr.index 9 x y) (.tmp 30) (.tmp 31) (.string s) (.int .i64 ((k : Int))) (.int .u8 (s[k].toNat : Int)) (fun _ => rfl) rfl rfl (idx_s s k hlt _) rfl ?_
      refine wl_bin (fun x y => do eqGuard .lss 5 (.tmp 32) (.const (.int .u8 (48))) x y; binOp .lss 5 x y) (.tmp 32) (.const (.int .u8 (48))) (.int .u8 (s[k].toNat : Int)) (.int .u8 (48)) (.bool true) (fun _ => rfl) rfl rfl (ls5 ha _ _ _) rfl ?_
      refine wl_mv (.tmp 33) (.bool true) (fun _ => rfl) rfl rfl ?_
      refine wl_skip rfl ?_
      refine wl_skip rfl ?_
      refine wl_skip rfl ?_
      refine wl_skip rfl ?_
      refine wl_pick (.tmp 34) (.const (.bool true)) (.tmp 38) true (.bool true) (fun _ => rfl) rfl rfl rfl ?_
      refine w_nil ?_
      refine xn_then ?_
      refine w_condT rfl ?_
      refine w_seq ?_
      refine w_reg ?_
      refine wl_build 24 [] [] (.agg #[.int .u64 0, .int .u64 0, .int .u64 0, .int .u64 0]) rfl rfl (by kernel_rfl) rfl ?_
      refine wl_st 24 (.tmp 2) (.tmp 40) k1 0 #[.int .u64 0, .int .u64 0, .int .u64 0, .int .u64 0] [.int .u64 0, .int .u64 0, .int .u64 0, .int .u64 0] [.int .u64 0, .int .u64 0, .int .u64 0, .int .u64 0] Q1 rfl rfl e2 rfl rfl sz24 rfl rfl rfl ?_
      intro w21 hS Qn
      replace Q1 := Qn
      clear Qn
      replace M := hS.mo _ N_k1 M
      clear hS
      refine wl_mv (.const (.int .i64 (10))) (.int .i64 (10)) (fun _ => rfl) rfl rfl ?_
      refine w_nil ?_
      refine xn_then ?_
      refine w_ret ?_
      refine xr_blk ?_
      refine xr_then ?_
      refine xr_then ?_
      refine xr_blk ?_
      refine xr_then ?_
      exact w_ret2 _ _ (.agg #[.int .u64 0, .int .u64 0, .int .u64 0, .int .u64 0]) (.int .i64 (10)) rfl ⟨k1, e2, (run_row Q1 24 0 4 [.int .u64 0, .int .u64 0, .int .u64 0, .int .u64 0] rfl Try.underlying24 rfl sz24)⟩ rfl ⟨by rw [if_neg (fun hT : isT s => by obtain ⟨_, _, h3⟩ := hT; have := h3 k hlt hlt; have := of_decide_eq_true ha; omega)], M⟩
    | false =>
      cases hb : decide ((s[k].toNat : Int) > 57) with
      | true =>
        refine w_seq ?_
        refine w_seq ?_
        refine w_reg ?_
        refine wl_mv (.tmp 4) (.int .i64 ((k : Int))) (fun _ => rfl) e4 rfl ?_
        refine wl_mv (.tmp 0) (.string s) (fun _ => rfl) e0 rfl ?_
        refine wl_val (.int .i64 ((s.size : Int))) (len_run _ _ s rfl _ _ _ _ _ _) rfl ?_
        refine wl_bin (fun x y => do eqGuard .lss 3 (.tmp 24) (.tmp 26) x y; binOp .lss 3 x y) (.tmp 24) (.tmp 26) (.int .i64 ((k : Int))) (.int .i64 ((s.size : Int))) (.bool true) (fun _ => rfl) rfl rfl (lt3_run hl _ _ _) rfl ?_
        refine w_nil ?_
        refine xn_then ?_
        refine w_condT rfl ?_
        refine w_skip ?_
        refine xn_then ?_
        refine w_seq ?_
        refine w_block ?_
        refine w_seq ?_
        refine w_reg ?_
        refine wl_mv (.tmp 0) (.string s) (fun _ => rfl) e0 rfl ?_
        refine wl_mv (.tmp 4) (.int .i64 ((k : Int))) (fun _ => rfl) e4 rfl ?_
        refine wl_bin (fun x y => Instr.index 9 x y) (.tmp 30) (.tmp 31) (.string s) (.int .i64 ((k : Int))) (.int .u8 (s[k].toNat : Int)) (fun _ => rfl) rfl rfl (idx_s s k hlt _) rfl ?_
        refine wl_bin (fun x y => do eqGuard .lss 5 (.tmp 32) (.const (.int .u8 (48))) x y; binOp .lss 5 x y) (.tmp 32) (.const (.int .u8 (48))) (.int .u8 (s[k].toNat : Int)) (.int .u8 (48)) (.bool false) (fun _ => rfl) rfl rfl (ls5 ha _ _ _) rfl ?_
        refine wl_mv (.tmp 33) (.bool false) (fun _ => rfl) rfl rfl ?_
        refine wl_mv (.tmp 0) (.string s) (fun _ => rfl) e0 rfl ?_
        refine wl_mv (.tmp 4) (.int .i64 ((k : Int))) (fun _ => rfl) e4 rfl ?_
        refine wl_bin (fun x y => Instr.index 9 x y) (.tmp 35) (.tmp 36) (.string s) (.int .i64 ((k : Int))) (.int .u8 (s[k].toNat : Int)) (fun _ => rfl) rfl rfl (idx_s s k hlt _) rfl ?_
        refine wl_bin (fun x y => do eqGuard .gtr 5 (.tmp 37) (.const (.int .u8 (57))) x y; binOp .gtr 5 x y) (.tmp 37) (.const (.int .u8 (57))) (.int .u8 (s[k].toNat : Int)) (.int .u8 (57)) (.bool true) (fun _ => rfl) rfl rfl (gt5_run hb _ _ _) rfl ?_
        refine wl_pick (.tmp 34) (.const (.bool true)) (.tmp 38) false (.bool true) (fun _ => rfl) rfl rfl rfl ?_
        refine w_nil ?_
        refine xn_then ?_
        refine w_condT rfl ?_
        refine w_seq ?_
        refine w_reg ?_
        refine wl_build 24 [] [] (.agg #[.int .u64 0, .int .u64 0, .int .u64 0, .int .u64 0]) rfl rfl (by kernel_rfl) rfl ?_
        refine wl_st 24 (.tmp 2) (.tmp 40) k1 0 #[.int .u64 0, .int .u64 0, .int .u64 0, .int .u64 0] [.int .u64 0, .int .u64 0, .int .u64 0, .int .u64 0] [.int .u64 0, .int .u64 0, .int .u64 0, .int .u64 0] Q1 rfl rfl e2 rfl rfl sz24 rfl rfl rfl ?_
        intro w21 hS Qn
        replace Q1 := Qn
        clear Qn
        replace M := hS.mo _ N_k1 M
        clear hS
        refine wl_mv (.const (.int .i64 (10))) (.int .i64 (10)) (fun _ => rfl) rfl rfl ?_
        refine w_nil ?_
        refine xn_then ?_
        refine w_ret ?_
        refine xr_blk ?_
        refine xr_then ?_
        refine xr_then ?_
        refine xr_blk ?_
        refine xr_then ?_
        exact w_ret2 _ _ (.agg #[.int .u64 0, .int .u64 0, .int .u64 0, .int .u64 0]) (.int .i64 (10)) rfl ⟨k1, e2, (run_row Q1 24 0 4 [.int .u64 0, .int .u64 0, .int .u64 0, .int .u64 0] rfl Try.underlying24 rfl sz24)⟩ rfl ⟨by rw [if_neg (fun hT : isT s => by obtain ⟨_, _, h3⟩ := hT; have := h3 k hlt hlt; have := of_decide_eq_true hb; omega)], M⟩
      | false =>
        refine w_seq ?_
        refine w_seq ?_
        refine w_reg ?_
        refine wl_mv (.tmp 4) (.int .i64 ((k : Int))) (fun _ => rfl) e4 rfl ?_
        refine wl_mv (.tmp 0) (.string s) (fun _ => rfl) e0 rfl ?_
        refine wl_val (.int .i64 ((s.size : Int))) (len_run _ _ s rfl _ _ _ _ _ _) rfl ?_
        refine wl_bin (fun x y => do eqGuard .lss 3 (.tmp 24) (.tmp 26) x y; binOp .lss 3 x y) (.tmp 24) (.tmp 26) (.int .i64 ((k : Int))) (.int .i64 ((s.size : Int))) (.bool true) (fun _ => rfl) rfl rfl (lt3_run hl _ _ _) rfl ?_
        refine w_nil ?_
        refine xn_then ?_
        refine w_condT rfl ?_
        refine w_skip ?_
        refine xn_then ?_
        refine w_seq ?_
        refine w_block ?_
        refine w_seq ?_
        refine w_reg ?_
        refine wl_mv (.tmp 0) (.string s) (fun _ => rfl) e0 rfl ?_
        refine wl_mv (.tmp 4) (.int .i64 ((k : Int))) (fun _ => rfl) e4 rfl ?_
        refine wl_bin (fun x y => Instr.index 9 x y) (.tmp 30) (.tmp 31) (.string s) (.int .i64 ((k : Int))) (.int .u8 (s[k].toNat : Int)) (fun _ => rfl) rfl rfl (idx_s s k hlt _) rfl ?_
        refine wl_bin (fun x y => do eqGuard .lss 5 (.tmp 32) (.const (.int .u8 (48))) x y; binOp .lss 5 x y) (.tmp 32) (.const (.int .u8 (48))) (.int .u8 (s[k].toNat : Int)) (.int .u8 (48)) (.bool false) (fun _ => rfl) rfl rfl (ls5 ha _ _ _) rfl ?_
        refine wl_mv (.tmp 33) (.bool false) (fun _ => rfl) rfl rfl ?_
        refine wl_mv (.tmp 0) (.string s) (fun _ => rfl) e0 rfl ?_
        refine wl_mv (.tmp 4) (.int .i64 ((k : Int))) (fun _ => rfl) e4 rfl ?_
        refine wl_bin (fun x y => Instr.index 9 x y) (.tmp 35) (.tmp 36) (.string s) (.int .i64 ((k : Int))) (.int .u8 (s[k].toNat : Int)) (fun _ => rfl) rfl rfl (idx_s s k hlt _) rfl ?_
        refine wl_bin (fun x y => do eqGuard .gtr 5 (.tmp 37) (.const (.int .u8 (57))) x y; binOp .gtr 5 x y) (.tmp 37) (.const (.int .u8 (57))) (.int .u8 (s[k].toNat : Int)) (.int .u8 (57)) (.bool false) (fun _ => rfl) rfl rfl (gt5_run hb _ _ _) rfl ?_
        refine wl_pick (.tmp 34) (.const (.bool true)) (.tmp 38) false (.bool false) (fun _ => rfl) rfl rfl rfl ?_
        refine w_nil ?_
        refine xn_then ?_
        refine w_condF rfl ?_
        refine w_skip ?_
        refine xn_blk ?_
        refine xn_then ?_
        refine w_reg ?_
        refine wl_mv (.tmp 4) (.int .i64 ((k : Int))) (fun _ => rfl) e4 rfl ?_
        refine wl_bin (fun x y => do eqGuard .add 3 (.tmp 28) (.const (.int .i64 (1))) x y; binOp .add 3 x y) (.tmp 28) (.const (.int .i64 (1))) (.int .i64 ((k : Int))) (.int .i64 (1)) (.int .i64 (((k + 1 : Nat) : Int))) (fun _ => rfl) rfl rfl (add1_run (by unfold maxLen at hs; omega) _ _ _) rfl ?_
        refine wl_mv (.tmp 29) (.int .i64 (((k + 1 : Nat) : Int))) (fun _ => rfl) rfl rfl ?_
        refine w_nil ?_
        exact xn_loop (s.size - (k + 1)) (by omega) ⟨k + 1, by omega, e0, rfl, e2, Q1, dgs_succ hlt hd (by have := of_decide_eq_false ha; omega) (by have := of_decide_eq_false hb; omega), M, i7, i8, i9⟩
  · have hl : decide ((k : Int) < (s.size : Int)) = false := decide_eq_false (by omega)
    cases h78 : decide ((s.size : Int) > 78) with
    | true =>
      refine w_seq ?_
      refine w_seq ?_
      refine w_reg ?_
      refine wl_mv (.tmp 4) (.int .i64 ((k : Int))) (fun _ => rfl) e4 rfl ?_
      refine wl_mv (.tmp 0) (.string s) (fun _ => rfl) e0 rfl ?_
      refine wl_val (.int .i64 ((s.size : Int))) (len_run _ _ s rfl _ _ _ _ _ _) rfl ?_
      refine wl_bin (fun x y => do eqGuard .lss 3 (.tmp 24) (.tmp 26) x y; binOp .lss 3 x y) (.tmp 24) (.tmp 26) (.int .i64 ((k : Int))) (.int .i64 ((s.size : Int))) (.bool false) (fun _ => rfl) rfl rfl (lt3_run hl _ _ _) rfl ?_
      refine w_nil ?_
      refine xn_then ?_
      refine w_condF rfl ?_
      refine w_exit ?_
      refine xx_then ?_
      refine xx_then ?_
      refine xx_blk ?_
      refine xn_then ?_
      refine w_seq ?_
      refine w_seq ?_
      refine w_reg ?_
      refine wl_mv (.tmp 0) (.string s) (fun _ => rfl) e0 rfl ?_
      refine wl_val (.int .i64 ((s.size : Int))) (len_run _ _ s rfl _ _ _ _ _ _) rfl ?_
      refine wl_bin (fun x y => do eqGuard .gtr 3 (.tmp 42) (.const (.int .i64 (78))) x y; binOp .gtr 3 x y) (.tmp 42) (.const (.int .i64 (78))) (.int .i64 ((s.size : Int))) (.int .i64 (78)) (.bool true) (fun _ => rfl) rfl rfl (gt3_run h78 _ _ _) rfl ?_
      refine w_nil ?_
      refine xn_then ?_
      refine w_condT rfl ?_
      refine w_seq ?_
      refine w_reg ?_
      refine wl_build 24 [] [] (.agg #[.int .u64 0, .int .u64 0, .int .u64 0, .int .u64 0]) rfl rfl (by kernel_rfl) rfl ?_
      refine wl_st 24 (.tmp 2) (.tmp 44) k1 0 #[.int .u64 0, .int .u64 0, .int .u64 0, .int .u64 0] [.int .u64 0, .int .u64 0, .int .u64 0, .int .u64 0] [.int .u64 0, .int .u64 0, .int .u64 0, .int .u64 0] Q1 rfl rfl e2 rfl rfl sz24 rfl rfl rfl ?_
      intro w21 hS Qn
      replace Q1 := Qn
      clear Qn
      replace M := hS.mo _ N_k1 M
      clear hS
      refine wl_mv (.const (.int .i64 (7))) (.int .i64 (7)) (fun _ => rfl) rfl rfl ?_
      refine w_nil ?_
      refine xn_then ?_
      refine w_ret ?_
      refine xr_then ?_
      exact w_ret2 _ _ (.agg #[.int .u64 0, .int .u64 0, .int .u64 0, .int .u64 0]) (.int .i64 (7)) rfl ⟨k1, e2, (run_row Q1 24 0 4 [.int .u64 0, .int .u64 0, .int .u64 0, .int .u64 0] rfl Try.underlying24 rfl sz24)⟩ rfl ⟨by rw [if_pos (isT_mk hp hlead (by omega) hd), resP_long hp (dgs_end hk hlt hd) hz0 (by have := of_decide_eq_true h78; omega)], M⟩
    | false =>
      refine w_seq ?_
      refine w_seq ?_
      refine w_reg ?_
      refine wl_mv (.tmp 4) (.int .i64 ((k : Int))) (fun _ => rfl) e4 rfl ?_
      refine wl_mv (.tmp 0) (.string s) (fun _ => rfl) e0 rfl ?_
      refine wl_val (.int .i64 ((s.size : Int))) (len_run _ _ s rfl _ _ _ _ _ _) rfl ?_
      refine wl_bin (fun x y => do eqGuard .lss 3 (.tmp 24) (.tmp 26) x y; binOp .lss 3 x y) (.tmp 24) (.tmp 26) (.int .i64 ((k : Int))) (.int .i64 ((s.size : Int))) (.bool false) (fun _ => rfl) rfl rfl (lt3_run hl _ _ _) rfl ?_
      refine w_nil ?_
      refine xn_then ?_
      refine w_condF rfl ?_
      refine w_exit ?_
      refine xx_then ?_
      refine xx_then ?_
      refine xx_blk ?_
      refine xn_then ?_
      refine w_seq ?_
      refine w_seq ?_
      refine w_reg ?_
      refine wl_mv (.tmp 0) (.string s) (fun _ => rfl) e0 rfl ?_
      refine wl_val (.int .i64 ((s.size : Int))) (len_run _ _ s rfl _ _ _ _ _ _) rfl ?_
      refine wl_bin (fun x y => do eqGuard .gtr 3 (.tmp 42) (.const (.int .i64 (78))) x y; binOp .gtr 3 x y) (.tmp 42) (.const (.int .i64 (78))) (.int .i64 ((s.size : Int))) (.int .i64 (78)) (.bool false) (fun _ => rfl) rfl rfl (gt3_run h78 _ _ _) rfl ?_
      refine w_nil ?_
      refine xn_then ?_
      refine w_condF rfl ?_
      refine w_skip ?_
      refine xn_then ?_
      refine w_seq ?_
      refine w_reg ?_
      refine wl_alloc 24 #[.int .u64 0, .int .u64 0, .int .u64 0, .int .u64 0] rfl (fun _ => by kernel_rfl) rfl ?_
      intro k21 w21 hk hz hq Q21
      have ne_k1_k21 : k1 ≠ k21 := by have := Q1.lt; omega
      have N_k21 : w.heap.size ≤ k21 := by have := M.size; omega
      replace Q1 := Q1.mo hq
      replace M := M.trans hq
      clear hk hz hq
      refine w_nil ?_
      refine xn_then ?_
      refine w_seq ?_
      refine w_seq ?_
      refine w_reg ?_
      refine wl_mv (.const (.int .i64 (0))) (.int .i64 (0)) (fun _ => rfl) rfl rfl ?_
      refine w_nil ?_
      refine xn_then ?_
      refine w_block ?_
      rw [if_pos (isT_mk hp hlead (by omega) hd)]
      have hT := dgs_end hk hlt hd
      refine w_loop (fun m l w1 => ∃ k : Nat, k + m = s.size ∧ look l 0 = .string s ∧ look l 6 = .int .i64 (k : Int) ∧ look l 2 = pt k1 0 ∧ look l 5 = pt k21 0 ∧ At w1 k1 [.int .u64 0, .int .u64 0, .int .u64 0, .int .u64 0] ∧ At w1 k21 (nvli (pvk s k)) ∧ pvk s k < MM ∧ Mo w w1 ∧ (∀ k, look l 7 = pt k 0 → k < w1.heap.size) ∧ (∀ k, look l 8 = pt k 0 → k < w1.heap.size) ∧ (∀ k, look l 7 = pt k 0 → look l 8 ≠ pt k 0) ∧ (∀ k, look l 9 = pt k 0 → k < w1.heap.size)) s.size ⟨0, by omega, e0, rfl, e2, rfl, Q1, Q21, by rw [pvk_z]; decide, M, (fun k h => (npt i7 h).elim), (fun k h => (npt i8 h).elim), (fun k h => (npt i7 h).elim), (fun k h => (npt i9 h).elim)⟩ ?_
      clear M Q1 Q21 hd hl h78 hk e0 e2 e4 i7 i8 i9 hlt
      rintro m2 l2 wl2 ⟨k, hk, e0, e6, e2, e5, Q1, Q21, hv, M, d7, d8, d78, d9⟩
      have hv0 := pvk_nn hT k (by omega)
      by_cases hlt : k < s.size
      · have hl : decide ((k : Int) < (s.size : Int)) = true := decide_eq_true (by omega)
        have hc := hT k hlt hlt
        have hsz := M.size
        by_cases hhi : pvk s k * 10 < MM
        · have hz := hi0z (show 0 ≤ pvk s k * 10 by omega) hhi
          by_cases hsm : pvk s k * 10 + ((s[k].toNat : Int) - 48) < MM
          · obtain ⟨Z, hZ⟩ : ∃ Z, Z = pvk s k * 10 + ((s[k].toNat : Int) - 48) := ⟨_, rfl⟩
            have hsum := fun w => rsum_ok (pvk s k * 10) ((s[k].toNat : Int) - 48) Z w (by omega) (by omega) hZ hhi hsm
            refine w_seq ?_
            refine w_seq ?_
            refine w_reg ?_
            refine wl_mv (.tmp 6) (.int .i64 ((k : Int))) (fun _ => rfl) e6 rfl ?_
            refine wl_mv (.tmp 0) (.string s) (fun _ => rfl) e0 rfl ?_
            refine wl_val (.int .i64 ((s.size : Int))) (len_run _ _ s rfl _ _ _ _ _ _) rfl ?_
            refine wl_bin (fun x y => do eqGuard .lss 3 (.tmp 45) (.tmp 47) x y; binOp .lss 3 x y) (.tmp 45) (.tmp 47) (.int .i64 ((k : Int))) (.int .i64 ((s.size : Int))) (.bool true) (fun _ => rfl) rfl rfl (lt3_run hl _ _ _) rfl ?_
            refine w_nil ?_
            refine xn_then ?_
            refine w_condT rfl ?_
            refine w_skip ?_
            refine xn_then ?_
            refine w_seq ?_
            refine w_block ?_
            refine w_seq ?_
            refine w_any 8 [.inl (nv (pvk s k)), .inl (nv (10)), .inl (.tuple #[nv (pvk s k * 10 / MM), nv (pvk s k * 10)]), .inl (.tuple #[nv (pvk s k * 10 / MM), nv (pvk s k * 10)]), .inl (nv (pvk s k * 10 / MM)), .inl (nv (pvk s k * 10)), .inr [.int .u64 0, .int .u64 0, .int .u64 0, .int .u64 0], .inr [.int .u64 0, .int .u64 0, .int .u64 0, .int .u64 0]] [5] (by kernel_rfl) (by kernel_rfl) (by kernel_rfl) (by kernel_rfl) rfl (by kernel_rfl) (by kernel_rfl) (late_cons ⟨_, _, rfl, rfl, fun _ _ _ _ h => h, fun f hd => ⟨rfl, la_un (fun v => Instr.extract v 1) (.tmp 51) (.tuple #[nv (pvk s k * 10 / MM), nv (pvk s k * 10)]) (nv (pvk s k * 10)) (fun _ => rfl) (hd 3 rfl _ rfl) (fun w => by kernel_rfl)⟩⟩ late_nil) ?_ ?_ ?_
            · exact Ds.two 6 7 (fun q hq => by rcases q with _ | _ | _ | _ | _ | _ | _ | _ | q <;> first | (left; rfl) | (right; rfl) | cases hq) d7 d8 d78
            · refine ea_cons ?_ (ea_cons ?_ (ea_cons ?_ (ea_cons ?_ (ea_cons ?_ (ea_cons ?_ (ea_cons ?_ (ea_cons ?_ (ea_nil))))))))
              · exact og_eq (nv (pvk s k)) rfl (fun f wf hq hd K hK => have Q21 := Q21.mo hq; go_run rfl (wo_load 24 (.tmp 5) (pt k21 0) (nv (pvk s k)) rfl e5 (run_row Q21 24 0 4 (nvli (pvk s k)) rfl Try.underlying24 rfl sz24) (hK _ (Mo.refl _))))
              · exact og_eq (nv (10)) rfl (fun f wf hq hd K hK => go_run rfl (wo_call 69 [(.const (.int .u64 (10)))] _ [.int .u64 (10)] (nv (10)) rfl rfl (fun _ _ => by kernel_rfl) (from69_n _) hK))
              · exact og_eq (.tuple #[nv (pvk s k * 10 / MM), nv (pvk s k * 10)]) rfl (fun f wf hq hd K hK => go_run rfl (wo_call 16 [(.tmp 52), (.tmp 53)] _ [nv (pvk s k), nv (10)] (.tuple #[nv (pvk s k * 10 / MM), nv (pvk s k * 10)]) rfl (li2 (hd 0 rfl) (hd 1 rfl)) (fun _ _ => by kernel_rfl) (rmul_n (pvk s k) 10 _ hv0 hv (by decide) (by decide)) hK))
              · exact og_eq (.tuple #[nv (pvk s k * 10 / MM), nv (pvk s k * 10)]) rfl (fun f wf hq hd K hK => go_run rfl (wo_mv (.tmp 54) (.tuple #[nv (pvk s k * 10 / MM), nv (pvk s k * 10)]) (fun _ => rfl) (hd 2 rfl) (hK _ (Mo.refl _))))
              · exact og_eq (nv (pvk s k * 10 / MM)) rfl (fun f wf hq hd K hK => go_run rfl (wo_un (fun v => Instr.extract v 0) (.tmp 51) (.tuple #[nv (pvk s k * 10 / MM), nv (pvk s k * 10)]) (nv (pvk s k * 10 / MM)) (fun _ => rfl) (hd 3 rfl) (by kernel_rfl) (hK _ (Mo.refl _))))
              · exact og_eq (nv (pvk s k * 10)) rfl (fun f wf hq hd K hK => go_run rfl (wo_un (fun v => Instr.extract v 1) (.tmp 51) (.tuple #[nv (pvk s k * 10 / MM), nv (pvk s k * 10)]) (nv (pvk s k * 10)) (fun _ => rfl) (hd 3 rfl) (by kernel_rfl) (hK _ (Mo.refl _))))
              · exact og_new [.int .u64 0, .int .u64 0, .int .u64 0, .int .u64 0] rfl (fun f wf hq hd K hK => go_run rfl (wo_alloc 24 #[.int .u64 0, .int .u64 0, .int .u64 0, .int .u64 0] rfl (fun _ => by kernel_rfl) hK))
              · exact og_new [.int .u64 0, .int .u64 0, .int .u64 0, .int .u64 0] rfl (fun f wf hq hd K hK => go_run rfl (wo_alloc 24 #[.int .u64 0, .int .u64 0, .int .u64 0, .int .u64 0] rfl (fun _ => by kernel_rfl) hK))
            intro kf51 w51 hq hR hne
            obtain ⟨N_k51, Q51⟩ := hR 6 _ rfl rfl
            obtain ⟨N_k52, Q52⟩ := hR 7 _ rfl rfl
            have ne_k1_k51 : k1 ≠ (kf51 6) := by have := Q1.lt; omega
            have ne_k21_k51 : k21 ≠ (kf51 6) := by have := Q21.lt; omega
            have ne_k51_k52 := hne 6 7 rfl rfl rfl rfl (by decide)
            replace N_k51 := Nat.le_trans M.size N_k51
            have ne_k1_k52 : k1 ≠ (kf51 7) := by have := Q1.lt; omega
            have ne_k21_k52 : k21 ≠ (kf51 7) := by have := Q21.lt; omega
            replace N_k52 := Nat.le_trans M.size N_k52
            replace d9 := fun k h => Nat.lt_of_lt_of_le (d9 k h) hq.size
            replace Q1 := Q1.mo hq
            replace Q21 := Q21.mo hq
            replace M := M.trans hq
            clear hq hR hne
            refine wl_st 24 (.tmp 7) (.tmp 55) (kf51 6) 0 (nvar (pvk s k * 10 / MM)) [.int .u64 0, .int .u64 0, .int .u64 0, .int .u64 0] (nvli (pvk s k * 10 / MM)) Q51 rfl rfl rfl rfl rfl sz24 rfl rfl rfl ?_
            intro w52 hS Qn
            replace Q51 := Qn
            clear Qn
            replace Q1 := hS.other _ _ ne_k1_k51 Q1
            replace Q21 := hS.other _ _ ne_k21_k51 Q21
            replace Q52 := hS.other _ _ ne_k51_k52.symm Q52
            replace d9 := fun k h => Nat.lt_of_lt_of_le (d9 k h) (Nat.le_of_eq hS.size.symm)
            replace M := hS.mo _ N_k51 M
            clear hS
            refine wl_st 24 (.tmp 8) (.tmp 56) (kf51 7) 0 (nvar (pvk s k * 10)) [.int .u64 0, .int .u64 0, .int .u64 0, .int .u64 0] (nvli (pvk s k * 10)) Q52 rfl rfl rfl rfl rfl sz24 rfl rfl rfl ?_
            intro w53 hS Qn
            replace Q52 := Qn
            clear Qn
            replace Q1 := hS.other _ _ ne_k1_k52 Q1
            replace Q21 := hS.other _ _ ne_k21_k52 Q21
            replace Q51 := hS.other _ _ ne_k51_k52 Q51
            replace d9 := fun k h => Nat.lt_of_lt_of_le (d9 k h) (Nat.le_of_eq hS.size.symm)
            replace M := hS.mo _ N_k52 M
            clear hS
            refine w_nil ?_
            refine xn_then ?_
            refine w_seq ?_
            refine w_any 12 [.inl (nv (pvk s k * 10)), .inl (.string s), .inl (.int .i64 ((k : Int))), .inl (.int .u8 (s[k].toNat : Int)), .inl (.int .u8 ((s[k].toNat : Int) - 48)), .inl (.int .u64 ((s[k].toNat : Int) - 48)), .inl (nv (((s[k].toNat : Int) - 48))), .inl (.tuple #[nv (Z), .bool false]), .inl (.tuple #[nv (Z), .bool false]), .inl (nv (Z)), .inl (.bool false), .inr [.int .u64 0, .int .u64 0, .int .u64 0, .int .u64 0]] [10] (by kernel_rfl) (by kernel_rfl) (by kernel_rfl) (by kernel_rfl) rfl (by kernel_rfl) (by kernel_rfl) (late_cons ⟨_, _, rfl, rfl, fun _ _ _ _ h => h, fun f hd => ⟨rfl, la_un (fun v => Instr.extract v 1) (.tmp 57) (.tuple #[nv (Z), .bool false]) (.bool false) (fun _ => rfl) (hd 8 rfl _ rfl) (fun w => by kernel_rfl)⟩⟩ late_nil) ?_ ?_ ?_
            · exact Ds.one 11 (fun q hq => by rcases q with _ | _ | _ | _ | _ | _ | _ | _ | _ | _ | _ | _ | q <;> first | rfl | cases hq) d9
            · refine ea_cons ?_ (ea_cons ?_ (ea_cons ?_ (ea_cons ?_ (ea_cons ?_ (ea_cons ?_ (ea_cons ?_ (ea_cons ?_ (ea_cons ?_ (ea_cons ?_ (ea_cons ?_ (ea_cons ?_ (ea_nil))))))))))))
              · exact og_eq (nv (pvk s k * 10)) rfl (fun f wf hq hd K hK => have Q52 := Q52.mo hq; go_run rfl (wo_load 24 (.tmp 8) (pt (kf51 7) 0) (nv (pvk s k * 10)) rfl rfl (run_row Q52 24 0 4 (nvli (pvk s k * 10)) rfl Try.underlying24 rfl sz24) (hK _ (Mo.refl _))))
              · exact og_eq (.string s) rfl (fun f wf hq hd K hK => go_run rfl (wo_mv (.tmp 0) (.string s) (fun _ => rfl) e0 (hK _ (Mo.refl _))))
              · exact og_eq (.int .i64 ((k : Int))) rfl (fun f wf hq hd K hK => go_run rfl (wo_mv (.tmp 6) (.int .i64 ((k : Int))) (fun _ => rfl) e6 (hK _ (Mo.refl _))))
              · exact og_eq (.int .u8 (s[k].toNat : Int)) rfl (fun f wf hq hd K hK => go_run rfl (wo_bin (fun x y => Instr.index 9 x y) (.tmp 59) (.tmp 60) (.string s) (.int .i64 ((k : Int))) (.int .u8 (s[k].toNat : Int)) (fun _ => rfl) (hd 1 rfl) (hd 2 rfl) (idx_s s k hlt _) (hK _ (Mo.refl _))))
              · exact og_eq (.int .u8 ((s[k].toNat : Int) - 48)) rfl (fun f wf hq hd K hK => go_run rfl (wo_bin (fun x y => do eqGuard .sub 5 (.tmp 61) (.const (.int .u8 (48))) x y; binOp .sub 5 x y) (.tmp 61) (.const (.int .u8 (48))) (.int .u8 (s[k].toNat : Int)) (.int .u8 (48)) (.int .u8 ((s[k].toNat : Int) - 48)) (fun _ => rfl) (hd 3 rfl) rfl (subu8_run hc.1 hc.2 _ _ _) (hK _ (Mo.refl _))))
              · exact og_eq (.int .u64 ((s[k].toNat : Int) - 48)) rfl (fun f wf hq hd K hK => go_run rfl (wo_un (fun v => convert 5 22 v) (.tmp 62) (.int .u8 ((s[k].toNat : Int) - 48)) (.int .u64 ((s[k].toNat : Int) - 48)) (fun _ => rfl) (hd 4 rfl) (cv8_run (by omega) (by omega) _) (hK _ (Mo.refl _))))
              · exact og_eq (nv (((s[k].toNat : Int) - 48))) rfl (fun f wf hq hd K hK => go_run rfl (wo_call 69 [(.tmp 63)] _ [.int .u64 ((s[k].toNat : Int) - 48)] (nv (((s[k].toNat : Int) - 48))) rfl (li1 (hd 5 rfl)) (fun _ _ => by kernel_rfl) (from34_any ((s[k].toNat : Int) - 48) _ ⟨by omega, by omega⟩) hK))
              · exact og_eq (.tuple #[nv (Z), .bool false]) rfl (fun f wf hq hd K hK => go_run rfl (wo_call 64 [(.tmp 58), (.tmp 64)] _ [nv (pvk s k * 10), nv (((s[k].toNat : Int) - 48))] (.tuple #[nv (Z), .bool false]) rfl (li2 (hd 0 rfl) (hd 6 rfl)) (fun _ _ => by kernel_rfl) (hsum _) hK))
              · exact og_eq (.tuple #[nv (Z), .bool false]) rfl (fun f wf hq hd K hK => go_run rfl (wo_mv (.tmp 65) (.tuple #[nv (Z), .bool false]) (fun _ => rfl) (hd 7 rfl) (hK _ (Mo.refl _))))
              · exact og_eq (nv (Z)) rfl (fun f wf hq hd K hK => go_run rfl (wo_un (fun v => Instr.extract v 0) (.tmp 57) (.tuple #[nv (Z), .bool false]) (nv (Z)) (fun _ => rfl) (hd 8 rfl) (by kernel_rfl) (hK _ (Mo.refl _))))
              · exact og_eq (.bool false) rfl (fun f wf hq hd K hK => go_run rfl (wo_un (fun v => Instr.extract v 1) (.tmp 57) (.tuple #[nv (Z), .bool false]) (.bool false) (fun _ => rfl) (hd 8 rfl) (by kernel_rfl) (hK _ (Mo.refl _))))
              · exact og_new [.int .u64 0, .int .u64 0, .int .u64 0, .int .u64 0] rfl (fun f wf hq hd K hK => go_run rfl (wo_alloc 24 #[.int .u64 0, .int .u64 0, .int .u64 0, .int .u64 0] rfl (fun _ => by kernel_rfl) hK))
            intro kf54 w54 hq hR hne
            obtain ⟨N_k53, Q53⟩ := hR 11 _ rfl rfl
            have ne_k1_k53 : k1 ≠ (kf54 11) := by have := Q1.lt; omega
            have ne_k21_k53 : k21 ≠ (kf54 11) := by have := Q21.lt; omega
            have ne_k51_k53 : (kf51 6) ≠ (kf54 11) := by have := Q51.lt; omega
            have ne_k52_k53 : (kf51 7) ≠ (kf54 11) := by have := Q52.lt; omega
            replace N_k53 := Nat.le_trans M.size N_k53
            replace d9 := fun k h => Nat.lt_of_lt_of_le (d9 k h) hq.size
            replace Q1 := Q1.mo hq
            replace Q21 := Q21.mo hq
            replace Q51 := Q51.mo hq
            replace Q52 := Q52.mo hq
            replace M := M.trans hq
            clear hq hR hne
            refine wl_st 24 (.tmp 9) (.tmp 66) (kf54 11) 0 (nvar (Z)) [.int .u64 0, .int .u64 0, .int .u64 0, .int .u64 0] (nvli (Z)) Q53 rfl rfl rfl rfl rfl sz24 rfl rfl rfl ?_
            intro w55 hS Qn
            replace Q53 := Qn
            clear Qn
            replace Q1 := hS.other _ _ ne_k1_k53 Q1
            replace Q21 := hS.other _ _ ne_k21_k53 Q21
            replace Q51 := hS.other _ _ ne_k51_k53 Q51
            replace Q52 := hS.other _ _ ne_k52_k53 Q52
            replace d9 := fun k h => Nat.lt_of_lt_of_le (d9 k h) (Nat.le_of_eq hS.size.symm)
            replace M := hS.mo _ N_k53 M
            clear hS
            refine wl_mv (.tmp 67) (.bool false) (fun _ => rfl) rfl rfl ?_
            refine w_nil ?_
            refine xn_then ?_
            refine w_seq ?_
            refine w_seq ?_
            refine w_reg ?_
            refine wl_load 24 (.tmp 7) (pt (kf51 6) 0) (nv (pvk s k * 10 / MM)) rfl rfl (run_row Q51 24 0 4 (nvli (pvk s k * 10 / MM)) rfl Try.underlying24 rfl sz24) rfl ?_
            refine wl_build 24 [] [] (.agg #[.int .u64 0, .int .u64 0, .int .u64 0, .int .u64 0]) rfl rfl (by kernel_rfl) rfl ?_
            refine wl_bin (fun x y => do eqGuard .neq 24 (.tmp 68) (.tmp 69) x y; binOp .neq 24 x y) (.tmp 68) (.tmp 69) (nv (pvk s k * 10 / MM)) (.agg #[.int .u64 0, .int .u64 0, .int .u64 0, .int .u64 0]) (.bool false) (fun _ => rfl) rfl rfl (nen_run (r := true) hz _ _ _) rfl ?_
            refine wl_mv (.tmp 70) (.bool false) (fun _ => rfl) rfl rfl ?_
            refine wl_mv (.tmp 10) (.bool false) (fun _ => rfl) rfl rfl ?_
            refine wl_pick (.tmp 71) (.const (.bool true)) (.tmp 72) false (.bool false) (fun _ => rfl) rfl rfl rfl ?_
            refine w_nil ?_
            refine xn_then ?_
            refine w_condF rfl ?_
            refine w_skip ?_
            refine xn_then ?_
            refine w_reg ?_
            refine wl_load 24 (.tmp 9) (pt (kf54 11) 0) (nv (Z)) rfl rfl (run_row Q53 24 0 4 (nvli (Z)) rfl Try.underlying24 rfl sz24) rfl ?_
            refine wl_st 24 (.tmp 5) (.tmp 75) k21 0 (nvar (Z)) (nvli (pvk s k)) (nvli (Z)) Q21 rfl rfl e5 rfl rfl sz24 rfl rfl rfl ?_
            intro w56 hS Qn
            replace Q21 := Qn
            clear Qn
            replace Q1 := hS.other _ _ ne_k1_k21 Q1
            replace Q51 := hS.other _ _ ne_k21_k51.symm Q51
            replace Q52 := hS.other _ _ ne_k21_k52.symm Q52
            replace Q53 := hS.other _ _ ne_k21_k53.symm Q53
            replace d9 := fun k h => Nat.lt_of_lt_of_le (d9 k h) (Nat.le_of_eq hS.size.symm)
            replace M := hS.mo _ N_k21 M
            clear hS
            refine w_nil ?_
            refine xn_blk ?_
            refine xn_then ?_
            refine w_reg ?_
            refine wl_mv (.tmp 6) (.int .i64 ((k : Int))) (fun _ => rfl) e6 rfl ?_
            refine wl_bin (fun x y => do eqGuard .add 3 (.tmp 49) (.const (.int .i64 (1))) x y; binOp .add 3 x y) (.tmp 49) (.const (.int .i64 (1))) (.int .i64 ((k : Int))) (.int .i64 (1)) (.int .i64 (((k + 1 : Nat) : Int))) (fun _ => rfl) rfl rfl (add1_run (by unfold maxLen at hs; omega) _ _ _) rfl ?_
            refine wl_mv (.tmp 50) (.int .i64 (((k + 1 : Nat) : Int))) (fun _ => rfl) rfl rfl ?_
            refine w_nil ?_
            exact xn_loop (s.size - (k + 1)) (by omega) ⟨k + 1, by omega, e0, rfl, e2, e5, Q1, by rw [pvk_succ s k hlt, ← hZ]; exact Q21, by rw [pvk_succ s k hlt]; exact hsm, M, (fun k h => by have e : pt (kf51 6) 0 = pt k 0 := h; rw [← pt_inj e]; exact Q51.lt), (fun k h => by have e : pt (kf51 7) 0 = pt k 0 := h; rw [← pt_inj e]; exact Q52.lt), (fun k h h2 => by have e : pt (kf51 6) 0 = pt k 0 := h; have e2 : pt (kf51 7) 0 = pt k 0 := h2; exact ne_k51_k52 (pt_inj (e.trans e2.symm))), (fun k h => by have e : pt (kf54 11) 0 = pt k 0 := h; rw [← pt_inj e]; exact Q53.lt)⟩
          · obtain ⟨Z, hsum⟩ := rsum_ov (pvk s k * 10) ((s[k].toNat : Int) - 48) (by omega) (by omega) (by omega) hhi hsm
            have hbig : ¬ pvk s k * 10 + ((s[k].toNat : Int) - 48) < MM := hsm
            refine w_seq ?_
            refine w_seq ?_
            refine w_reg ?_
            refine wl_mv (.tmp 6) (.int .i64 ((k : Int))) (fun _ => rfl) e6 rfl ?_
            refine wl_mv (.tmp 0) (.string s) (fun _ => rfl) e0 rfl ?_
            refine wl_val (.int .i64 ((s.size : Int))) (len_run _ _ s rfl _ _ _ _ _ _) rfl ?_
            refine wl_bin (fun x y => do eqGuard .lss 3 (.tmp 45) (.tmp 47) x y; binOp .lss 3 x y) (.tmp 45) (.tmp 47) (.int .i64 ((k : Int))) (.int .i64 ((s.size : Int))) (.bool true) (fun _ => rfl) rfl rfl (lt3_run hl _ _ _) rfl ?_
            refine w_nil ?_
            refine xn_then ?_
            refine w_condT rfl ?_
            refine w_skip ?_
            refine xn_then ?_
            refine w_seq ?_
            refine w_block ?_
            refine w_seq ?_
            refine w_any 8 [.inl (nv (pvk s k)), .inl (nv (10)), .inl (.tuple #[nv (pvk s k * 10 / MM), nv (pvk s k * 10)]), .inl (.tuple #[nv (pvk s k * 10 / MM), nv (pvk s k * 10)]), .inl (nv (pvk s k * 10 / MM)), .inl (nv (pvk s k * 10)), .inr [.int .u64 0, .int .u64 0, .int .u64 0, .int .u64 0], .inr [.int .u64 0, .int .u64 0, .int .u64 0, .int .u64 0]] [5] (by kernel_rfl) (by kernel_rfl) (by kernel_rfl) (by kernel_rfl) rfl (by kernel_rfl) (by kernel_rfl) (late_cons ⟨_, _, rfl, rfl, fun _ _ _ _ h => h, fun f hd => ⟨rfl, la_un (fun v => Instr.extract v 1) (.tmp 51) (.tuple #[nv (pvk s k * 10 / MM), nv (pvk s k * 10)]) (nv (pvk s k * 10)) (fun _ => rfl) (hd 3 rfl _ rfl) (fun w => by kernel_rfl)⟩⟩ late_nil) ?_ ?_ ?_
            · exact Ds.two 6 7 (fun q hq => by rcases q with _ | _ | _ | _ | _ | _ | _ | _ | q <;> first | (left; rfl) | (right; rfl) | cases hq) d7 d8 d78
            · refine ea_cons ?_ (ea_cons ?_ (ea_cons ?_ (ea_cons ?_ (ea_cons ?_ (ea_cons ?_ (ea_cons ?_ (ea_cons ?_ (ea_nil))))))))
              · exact og_eq (nv (pvk s k)) rfl (fun f wf hq hd K hK => have Q21 := Q21.mo hq; go_run rfl (wo_load 24 (.tmp 5) (pt k21 0) (nv (pvk s k)) rfl e5 (run_row Q21 24 0 4 (nvli (pvk s k)) rfl Try.underlying24 rfl sz24) (hK _ (Mo.refl _))))
              · exact og_eq (nv (10)) rfl (fun f wf hq hd K hK => go_run rfl (wo_call 69 [(.const (.int .u64 (10)))] _ [.int .u64 (10)] (nv (10)) rfl rfl (fun _ _ => by kernel_rfl) (from69_n _) hK))
              · exact og_eq (.tuple #[nv (pvk s k * 10 / MM), nv (pvk s k * 10)]) rfl (fun f wf hq hd K hK => go_run rfl (wo_call 16 [(.tmp 52), (.tmp 53)] _ [nv (pvk s k), nv (10)] (.tuple #[nv (pvk s k * 10 / MM), nv (pvk s k * 10)]) rfl (li2 (hd 0 rfl) (hd 1 rfl)) (fun _ _ => by kernel_rfl) (rmul_n (pvk s k) 10 _ hv0 hv (by decide) (by decide)) hK))
              · exact og_eq (.tuple #[nv (pvk s k * 10 / MM), nv (pvk s k * 10)]) rfl (fun f wf hq hd K hK => go_run rfl (wo_mv (.tmp 54) (.tuple #[nv (pvk s k * 10 / MM), nv (pvk s k * 10)]) (fun _ => rfl) (hd 2 rfl) (hK _ (Mo.refl _))))
              · exact og_eq (nv (pvk s k * 10 / MM)) rfl (fun f wf hq hd K hK => go_run rfl (wo_un (fun v => Instr.extract v 0) (.tmp 51) (.tuple #[nv (pvk s k * 10 / MM), nv (pvk s k * 10)]) (nv (pvk s k * 10 / MM)) (fun _ => rfl) (hd 3 rfl) (by kernel_rfl) (hK _ (Mo.refl _))))
              · exact og_eq (nv (pvk s k * 10)) rfl (fun f wf hq hd K hK => go_run rfl (wo_un (fun v => Instr.extract v 1) (.tmp 51) (.tuple #[nv (pvk s k * 10 / MM), nv (pvk s k * 10)]) (nv (pvk s k * 10)) (fun _ => rfl) (hd 3 rfl) (by kernel_rfl) (hK _ (Mo.refl _))))
              · exact og_new [.int .u64 0, .int .u64 0, .int .u64 0, .int .u64 0] rfl (fun f wf hq hd K hK => go_run rfl (wo_alloc 24 #[.int .u64 0, .int .u64 0, .int .u64 0, .int .u64 0] rfl (fun _ => by kernel_rfl) hK))
              · exact og_new [.int .u64 0, .int .u64 0, .int .u64 0, .int .u64 0] rfl (fun f wf hq hd K hK => go_run rfl (wo_alloc 24 #[.int .u64 0, .int .u64 0, .int .u64 0, .int .u64 0] rfl (fun _ => by kernel_rfl) hK))
            intro kf51 w51 hq hR hne
            obtain ⟨N_k51, Q51⟩ := hR 6 _ rfl rfl
            obtain ⟨N_k52, Q52⟩ := hR 7 _ rfl rfl
            have ne_k1_k51 : k1 ≠ (kf51 6) := by have := Q1.lt; omega
            have ne_k21_k51 : k21 ≠ (kf51 6) := by have := Q21.lt; omega
            have ne_k51_k52 := hne 6 7 rfl rfl rfl rfl (by decide)
            replace N_k51 := Nat.le_trans M.size N_k51
            have ne_k1_k52 : k1 ≠ (kf51 7) := by have := Q1.lt; omega
            have ne_k21_k52 : k21 ≠ (kf51 7) := by have := Q21.lt; omega
            replace N_k52 := Nat.le_trans M.size N_k52
            replace d9 := fun k h => Nat.lt_of_lt_of_le (d9 k h) hq.size
            replace Q1 := Q1.mo hq
            replace Q21 := Q21.mo hq
            replace M := M.trans hq
            clear hq hR hne
            refine wl_st 24 (.tmp 7) (.tmp 55) (kf51 6) 0 (nvar (pvk s k * 10 / MM)) [.int .u64 0, .int .u64 0, .int .u64 0, .int .u64 0] (nvli (pvk s k * 10 / MM)) Q51 rfl rfl rfl rfl rfl sz24 rfl rfl rfl ?_
            intro w52 hS Qn
            replace Q51 := Qn
            clear Qn
            replace Q1 := hS.other _ _ ne_k1_k51 Q1
            replace Q21 := hS.other _ _ ne_k21_k51 Q21
            replace Q52 := hS.other _ _ ne_k51_k52.symm Q52
            replace d9 := fun k h => Nat.lt_of_lt_of_le (d9 k h) (Nat.le_of_eq hS.size.symm)
            replace M := hS.mo _ N_k51 M
            clear hS
            refine wl_st 24 (.tmp 8) (.tmp 56) (kf51 7) 0 (nvar (pvk s k * 10)) [.int .u64 0, .int .u64 0, .int .u64 0, .int .u64 0] (nvli (pvk s k * 10)) Q52 rfl rfl rfl rfl rfl sz24 rfl rfl rfl ?_
            intro w53 hS Qn
            replace Q52 := Qn
            clear Qn
            replace Q1 := hS.other _ _ ne_k1_k52 Q1
            replace Q21 := hS.other _ _ ne_k21_k52 Q21
            replace Q51 := hS.other _ _ ne_k51_k52 Q51
            replace d9 := fun k h => Nat.lt_of_lt_of_le (d9 k h) (Nat.le_of_eq hS.size.symm)
            replace M := hS.mo _ N_k52 M
            clear hS
            refine w_nil ?_
            refine xn_then ?_
            refine w_seq ?_
            refine w_any 12 [.inl (nv (pvk s k * 10)), .inl (.string s), .inl (.int .i64 ((k : Int))), .inl (.int .u8 (s[k].toNat : Int)), .inl (.int .u8 ((s[k].toNat : Int) - 48)), .inl (.int .u64 ((s[k].toNat : Int) - 48)), .inl (nv (((s[k].toNat : Int) - 48))), .inl (.tuple #[nv (Z), .bool true]), .inl (.tuple #[nv (Z), .bool true]), .inl (nv (Z)), .inl (.bool true), .inr [.int .u64 0, .int .u64 0, .int .u64 0, .int .u64 0]] [10] (by kernel_rfl) (by kernel_rfl) (by kernel_rfl) (by kernel_rfl) rfl (by kernel_rfl) (by kernel_rfl) (late_cons ⟨_, _, rfl, rfl, fun _ _ _ _ h => h, fun f hd => ⟨rfl, la_un (fun v => Instr.extract v 1) (.tmp 57) (.tuple #[nv (Z), .bool true]) (.bool true) (fun _ => rfl) (hd 8 rfl _ rfl) (fun w => by kernel_rfl)⟩⟩ late_nil) ?_ ?_ ?_
            · exact Ds.one 11 (fun q hq => by rcases q with _ | _ | _ | _ | _ | _ | _ | _ | _ | _ | _ | _ | q <;> first | rfl | cases hq) d9
            · refine ea_cons ?_ (ea_cons ?_ (ea_cons ?_ (ea_cons ?_ (ea_cons ?_ (ea_cons ?_ (ea_cons ?_ (ea_cons ?_ (ea_cons ?_ (ea_cons ?_ (ea_cons ?_ (ea_cons ?_ (ea_nil))))))))))))
              · exact og_eq (nv (pvk s k * 10)) rfl (fun f wf hq hd K hK => have Q52 := Q52.mo hq; go_run rfl (wo_load 24 (.tmp 8) (pt (kf51 7) 0) (nv (pvk s k * 10)) rfl rfl (run_row Q52 24 0 4 (nvli (pvk s k * 10)) rfl Try.underlying24 rfl sz24) (hK _ (Mo.refl _))))
              · exact og_eq (.string s) rfl (fun f wf hq hd K hK => go_run rfl (wo_mv (.tmp 0) (.string s) (fun _ => rfl) e0 (hK _ (Mo.refl _))))
              · exact og_eq (.int .i64 ((k : Int))) rfl (fun f wf hq hd K hK => go_run rfl (wo_mv (.tmp 6) (.int .i64 ((k : Int))) (fun _ => rfl) e6 (hK _ (Mo.refl _))))
              · exact og_eq (.int .u8 (s[k].toNat : Int)) rfl (fun f wf hq hd K hK => go_run rfl (wo_bin (fun x y => Instr.index 9 x y) (.tmp 59) (.tmp 60) (.string s) (.int .i64 ((k : Int))) (.int .u8 (s[k].toNat : Int)) (fun _ => rfl) (hd 1 rfl) (hd 2 rfl) (idx_s s k hlt _) (hK _ (Mo.refl _))))
              · exact og_eq (.int .u8 ((s[k].toNat : Int) - 48)) rfl (fun f wf hq hd K hK => go_run rfl (wo_bin (fun x y => do eqGuard .sub 5 (.tmp 61) (.const (.int .u8 (48))) x y; binOp .sub 5 x y) (.tmp 61) (.const (.int .u8 (48))) (.int .u8 (s[k].toNat : Int)) (.int .u8 (48)) (.int .u8 ((s[k].toNat : Int) - 48)) (fun _ => rfl) (hd 3 rfl) rfl (subu8_run hc.1 hc.2 _ _ _) (hK _ (Mo.refl _))))
              · exact og_eq (.int .u64 ((s[k].toNat : Int) - 48)) rfl (fun f wf hq hd K hK => go_run rfl (wo_un (fun v => convert 5 22 v) (.tmp 62) (.int .u8 ((s[k].toNat : Int) - 48)) (.int .u64 ((s[k].toNat : Int) - 48)) (fun _ => rfl) (hd 4 rfl) (cv8_run (by omega) (by omega) _) (hK _ (Mo.refl _))))
              · exact og_eq (nv (((s[k].toNat : Int) - 48))) rfl (fun f wf hq hd K hK => go_run rfl (wo_call 69 [(.tmp 63)] _ [.int .u64 ((s[k].toNat : Int) - 48)] (nv (((s[k].toNat : Int) - 48))) rfl (li1 (hd 5 rfl)) (fun _ _ => by kernel_rfl) (from34_any ((s[k].toNat : Int) - 48) _ ⟨by omega, by omega⟩) hK))
              · exact og_eq (.tuple #[nv (Z), .bool true]) rfl (fun f wf hq hd K hK => go_run rfl (wo_call 64 [(.tmp 58), (.tmp 64)] _ [nv (pvk s k * 10), nv (((s[k].toNat : Int) - 48))] (.tuple #[nv (Z), .bool true]) rfl (li2 (hd 0 rfl) (hd 6 rfl)) (fun _ _ => by kernel_rfl) (hsum _) hK))
              · exact og_eq (.tuple #[nv (Z), .bool true]) rfl (fun f wf hq hd K hK => go_run rfl (wo_mv (.tmp 65) (.tuple #[nv (Z), .bool true]) (fun _ => rfl) (hd 7 rfl) (hK _ (Mo.refl _))))
              · exact og_eq (nv (Z)) rfl (fun f wf hq hd K hK => go_run rfl (wo_un (fun v => Instr.extract v 0) (.tmp 57) (.tuple #[nv (Z), .bool true]) (nv (Z)) (fun _ => rfl) (hd 8 rfl) (by kernel_rfl) (hK _ (Mo.refl _))))
              · exact og_eq (.bool true) rfl (fun f wf hq hd K hK => go_run rfl (wo_un (fun v => Instr.extract v 1) (.tmp 57) (.tuple #[nv (Z), .bool true]) (.bool true) (fun _ => rfl) (hd 8 rfl) (by kernel_rfl) (hK _ (Mo.refl _))))
              · exact og_new [.int .u64 0, .int .u64 0, .int .u64 0, .int .u64 0] rfl (fun f wf hq hd K hK => go_run rfl (wo_alloc 24 #[.int .u64 0, .int .u64 0, .int .u64 0, .int .u64 0] rfl (fun _ => by kernel_rfl) hK))
            intro kf54 w54 hq hR hne
            obtain ⟨N_k53, Q53⟩ := hR 11 _ rfl rfl
            have ne_k1_k53 : k1 ≠ (kf54 11) := by have := Q1.lt; omega
            have ne_k21_k53 : k21 ≠ (kf54 11) := by have := Q21.lt; omega
            have ne_k51_k53 : (kf51 6) ≠ (kf54 11) := by have := Q51.lt; omega
            have ne_k52_k53 : (kf51 7) ≠ (kf54 11) := by have := Q52.lt; omega
            replace N_k53 := Nat.le_trans M.size N_k53
            replace d9 := fun k h => Nat.lt_of_lt_of_le (d9 k h) hq.size
            replace Q1 := Q1.mo hq
            replace Q21 := Q21.mo hq
            replace Q51 := Q51.mo hq
            replace Q52 := Q52.mo hq
            replace M := M.trans hq
            clear hq hR hne
            refine wl_st 24 (.tmp 9) (.tmp 66) (kf54 11) 0 (nvar (Z)) [.int .u64 0, .int .u64 0, .int .u64 0, .int .u64 0] (nvli (Z)) Q53 rfl rfl rfl rfl rfl sz24 rfl rfl rfl ?_
            intro w55 hS Qn
            replace Q53 := Qn
            clear Qn
            replace Q1 := hS.other _ _ ne_k1_k53 Q1
            replace Q21 := hS.other _ _ ne_k21_k53 Q21
            replace Q51 := hS.other _ _ ne_k51_k53 Q51
            replace Q52 := hS.other _ _ ne_k52_k53 Q52
            replace d9 := fun k h => Nat.lt_of_lt_of_le (d9 k h) (Nat.le_of_eq hS.size.symm)
            replace M := hS.mo _ N_k53 M
            clear hS
            refine wl_mv (.tmp 67) (.bool true) (fun _ => rfl) rfl rfl ?_
            refine w_nil ?_
            refine xn_then ?_
            refine w_seq ?_
            refine w_seq ?_
            refine w_reg ?_
            refine wl_load 24 (.tmp 7) (pt (kf51 6) 0) (nv (pvk s k * 10 / MM)) rfl rfl (run_row Q51 24 0 4 (nvli (pvk s k * 10 / MM)) rfl Try.underlying24 rfl sz24) rfl ?_
            refine wl_build 24 [] [] (.agg #[.int .u64 0, .int .u64 0, .int .u64 0, .int .u64 0]) rfl rfl (by kernel_rfl) rfl ?_
            refine wl_bin (fun x y => do eqGuard .neq 24 (.tmp 68) (.tmp 69) x y; binOp .neq 24 x y) (.tmp 68) (.tmp 69) (nv (pvk s k * 10 / MM)) (.agg #[.int .u64 0, .int .u64 0, .int .u64 0, .int .u64 0]) (.bool false) (fun _ => rfl) rfl rfl (nen_run (r := true) hz _ _ _) rfl ?_
            refine wl_mv (.tmp 70) (.bool false) (fun _ => rfl) rfl rfl ?_
            refine wl_mv (.tmp 10) (.bool true) (fun _ => rfl) rfl rfl ?_
            refine wl_pick (.tmp 71) (.const (.bool true)) (.tmp 72) false (.bool true) (fun _ => rfl) rfl rfl rfl ?_
            refine w_nil ?_
            refine xn_then ?_
            refine w_condT rfl ?_
            refine w_seq ?_
            refine w_reg ?_
            refine wl_build 24 [] [] (.agg #[.int .u64 0, .int .u64 0, .int .u64 0, .int .u64 0]) rfl rfl (by kernel_rfl) rfl ?_
            refine wl_st 24 (.tmp 2) (.tmp 74) k1 0 #[.int .u64 0, .int .u64 0, .int .u64 0, .int .u64 0] [.int .u64 0, .int .u64 0, .int .u64 0, .int .u64 0] [.int .u64 0, .int .u64 0, .int .u64 0, .int .u64 0] Q1 rfl rfl e2 rfl rfl sz24 rfl rfl rfl ?_
            intro w56 hS Qn
            replace Q1 := Qn
            clear Qn
            replace Q21 := hS.other _ _ ne_k1_k21.symm Q21
            replace Q51 := hS.other _ _ ne_k1_k51.symm Q51
            replace Q52 := hS.other _ _ ne_k1_k52.symm Q52
            replace Q53 := hS.other _ _ ne_k1_k53.symm Q53
            replace d9 := fun k h => Nat.lt_of_lt_of_le (d9 k h) (Nat.le_of_eq hS.size.symm)
            replace M := hS.mo _ N_k1 M
            clear hS
            refine wl_mv (.const (.int .i64 (7))) (.int .i64 (7)) (fun _ => rfl) rfl rfl ?_
            refine w_nil ?_
            refine xn_then ?_
            refine w_ret ?_
            refine xr_then ?_
            refine xr_blk ?_
            refine xr_then ?_
            refine xr_then ?_
            refine xr_blk ?_
            refine xr_then ?_
            exact w_ret2 _ _ (.agg #[.int .u64 0, .int .u64 0, .int .u64 0, .int .u64 0]) (.int .i64 (7)) rfl ⟨k1, e2, (run_row Q1 24 0 4 [.int .u64 0, .int .u64 0, .int .u64 0, .int .u64 0] rfl Try.underlying24 rfl sz24)⟩ rfl ⟨by rw [resP_over hT hlt hbig], M⟩
        · have hz := hi1z (show MM ≤ pvk s k * 10 by omega) (show pvk s k * 10 < MM * MM by unfold MM at *; omega)
          obtain ⟨Z, o, hsum⟩ := rsum_any (pvk s k * 10) ((s[k].toNat : Int) - 48)
          have hbig : ¬ pvk s k * 10 + ((s[k].toNat : Int) - 48) < MM := by omega
          refine w_seq ?_
          refine w_seq ?_
          refine w_reg ?_
          refine wl_mv (.tmp 6) (.int .i64 ((k : Int))) (fun _ => rfl) e6 rfl ?_
          refine wl_mv (.tmp 0) (.string s) (fun _ => rfl) e0 rfl ?_
          refine wl_val (.int .i64 ((s.size : Int))) (len_run _ _ s rfl _ _ _ _ _ _) rfl ?_
          refine wl_bin (fun x y => do eqGuard .lss 3 (.tmp 45) (.tmp 47) x y; binOp .lss 3 x y) (.tmp 45) (.tmp 47) (.int .i64 ((k : Int))) (.int .i64 ((s.size : Int))) (.bool true) (fun _ => rfl) rfl rfl (lt3_run hl _ _ _) rfl ?_
          refine w_nil ?_
          refine xn_then ?_
          refine w_condT rfl ?_
          refine w_skip ?_
          refine xn_then ?_
          refine w_seq ?_
          refine w_block ?_
          refine w_seq ?_
          refine w_any 8 [.inl (nv (pvk s k)), .inl (nv (10)), .inl (.tuple #[nv (pvk s k * 10 / MM), nv (pvk s k * 10)]), .inl (.tuple #[nv (pvk s k * 10 / MM), nv (pvk s k * 10)]), .inl (nv (pvk s k * 10 / MM)), .inl (nv (pvk s k * 10)), .inr [.int .u64 0, .int .u64 0, .int .u64 0, .int .u64 0], .inr [.int .u64 0, .int .u64 0, .int .u64 0, .int .u64 0]] [5] (by kernel_rfl) (by kernel_rfl) (by kernel_rfl) (by kernel_rfl) rfl (by kernel_rfl) (by kernel_rfl) (late_cons ⟨_, _, rfl, rfl, fun _ _ _ _ h => h, fun f hd => ⟨rfl, la_un (fun v => Instr.extract v 1) (.tmp 51) (.tuple #[nv (pvk s k * 10 / MM), nv (pvk s k * 10)]) (nv (pvk s k * 10)) (fun _ => rfl) (hd 3 rfl _ rfl) (fun w => by kernel_rfl)⟩⟩ late_nil) ?_ ?_ ?_
          · exact Ds.two 6 7 (fun q hq => by rcases q with _ | _ | _ | _ | _ | _ | _ | _ | q <;> first | (left; rfl) | (right; rfl) | cases hq) d7 d8 d78
          · refine ea_cons ?_ (ea_cons ?_ (ea_cons ?_ (ea_cons ?_ (ea_cons ?_ (ea_cons ?_ (ea_cons ?_ (ea_cons ?_ (ea_nil))))))))
            · exact og_eq (nv (pvk s k)) rfl (fun f wf hq hd K hK => have Q21 := Q21.mo hq; go_run rfl (wo_load 24 (.tmp 5) (pt k21 0) (nv (pvk s k)) rfl e5 (run_row Q21 24 0 4 (nvli (pvk s k)) rfl Try.underlying24 rfl sz24) (hK _ (Mo.refl _))))
            · exact og_eq (nv (10)) rfl (fun f wf hq hd K hK => go_run rfl (wo_call 69 [(.const (.int .u64 (10)))] _ [.int .u64 (10)] (nv (10)) rfl rfl (fun _ _ => by kernel_rfl) (from69_n _) hK))
            · exact og_eq (.tuple #[nv (pvk s k * 10 / MM), nv (pvk s k * 10)]) rfl (fun f wf hq hd K hK => go_run rfl (wo_call 16 [(.tmp 52), (.tmp 53)] _ [nv (pvk s k), nv (10)] (.tuple #[nv (pvk s k * 10 / MM), nv (pvk s k * 10)]) rfl (li2 (hd 0 rfl) (hd 1 rfl)) (fun _ _ => by kernel_rfl) (rmul_n (pvk s k) 10 _ hv0 hv (by decide) (by decide)) hK))
            · exact og_eq (.tuple #[nv (pvk s k * 10 / MM), nv (pvk s k * 10)]) rfl (fun f wf hq hd K hK => go_run rfl (wo_mv (.tmp 54) (.tuple #[nv (pvk s k * 10 / MM), nv (pvk s k * 10)]) (fun _ => rfl) (hd 2 rfl) (hK _ (Mo.refl _))))
            · exact og_eq (nv (pvk s k * 10 / MM)) rfl (fun f wf hq hd K hK => go_run rfl (wo_un (fun v => Instr.extract v 0) (.tmp 51) (.tuple #[nv (pvk s k * 10 / MM), nv (pvk s k * 10)]) (nv (pvk s k * 10 / MM)) (fun _ => rfl) (hd 3 rfl) (by kernel_rfl) (hK _ (Mo.refl _))))
            · exact og_eq (nv (pvk s k * 10)) rfl (fun f wf hq hd K hK => go_run rfl (wo_un (fun v => Instr.extract v 1) (.tmp 51) (.tuple #[nv (pvk s k * 10 / MM), nv (pvk s k * 10)]) (nv (pvk s k * 10)) (fun _ => rfl) (hd 3 rfl) (by kernel_rfl) (hK _ (Mo.refl _))))
            · exact og_new [.int .u64 0, .int .u64 0, .int .u64 0, .int .u64 0] rfl (fun f wf hq hd K hK => go_run rfl (wo_alloc 24 #[.int .u64 0, .int .u64 0, .int .u64 0, .int .u64 0] rfl (fun _ => by kernel_rfl) hK))
            · exact og_new [.int .u64 0, .int .u64 0, .int .u64 0, .int .u64 0] rfl (fun f wf hq hd K hK => go_run rfl (wo_alloc 24 #[.int .u64 0, .int .u64 0, .int .u64 0, .int .u64 0] rfl (fun _ => by kernel_rfl) hK))
          intro kf51 w51 hq hR hne
          obtain ⟨N_k51, Q51⟩ := hR 6 _ rfl rfl
          obtain ⟨N_k52, Q52⟩ := hR 7 _ rfl rfl
          have ne_k1_k51 : k1 ≠ (kf51 6) := by have := Q1.lt; omega
          have ne_k21_k51 : k21 ≠ (kf51 6) := by have := Q21.lt; omega
          have ne_k51_k52 := hne 6 7 rfl rfl rfl rfl (by decide)
          replace N_k51 := Nat.le_trans M.size N_k51
          have ne_k1_k52 : k1 ≠ (kf51 7) := by have := Q1.lt; omega
          have ne_k21_k52 : k21 ≠ (kf51 7) := by have := Q21.lt; omega
          replace N_k52 := Nat.le_trans M.size N_k52
          replace d9 := fun k h => Nat.lt_of_lt_of_le (d9 k h) hq.size
          replace Q1 := Q1.mo hq
          replace Q21 := Q21.mo hq
          replace M := M.trans hq
          clear hq hR hne
          refine wl_st 24 (.tmp 7) (.tmp 55) (kf51 6) 0 (nvar (pvk s k * 10 / MM)) [.int .u64 0, .int .u64 0, .int .u64 0, .int .u64 0] (nvli (pvk s k * 10 / MM)) Q51 rfl rfl rfl rfl rfl sz24 rfl rfl rfl ?_
          intro w52 hS Qn
          replace Q51 := Qn
          clear Qn
          replace Q1 := hS.other _ _ ne_k1_k51 Q1
          replace Q21 := hS.other _ _ ne_k21_k51 Q21
          replace Q52 := hS.other _ _ ne_k51_k52.symm Q52
          replace d9 := fun k h => Nat.lt_of_lt_of_le (d9 k h) (Nat.le_of_eq hS.size.symm)
          replace M := hS.mo _ N_k51 M
          clear hS
          refine wl_st 24 (.tmp 8) (.tmp 56) (kf51 7) 0 (nvar (pvk s k * 10)) [.int .u64 0, .int .u64 0, .int .u64 0, .int .u64 0] (nvli (pvk s k * 10)) Q52 rfl rfl rfl rfl rfl sz24 rfl rfl rfl ?_
          intro w53 hS Qn
          replace Q52 := Qn
          clear Qn
          replace Q1 := hS.other _ _ ne_k1_k52 Q1
          replace Q21 := hS.other _ _ ne_k21_k52 Q21
          replace Q51 := hS.other _ _ ne_k51_k52 Q51
          replace d9 := fun k h => Nat.lt_of_lt_of_le (d9 k h) (Nat.le_of_eq hS.size.symm)
          replace M := hS.mo _ N_k52 M
          clear hS
          refine w_nil ?_
          refine xn_then ?_
          refine w_seq ?_
          refine w_any 12 [.inl (nv (pvk s k * 10)), .inl (.string s), .inl (.int .i64 ((k : Int))), .inl (.int .u8 (s[k].toNat : Int)), .inl (.int .u8 ((s[k].toNat : Int) - 48)), .inl (.int .u64 ((s[k].toNat : Int) - 48)), .inl (nv (((s[k].toNat : Int) - 48))), .inl (.tuple #[nv (Z), .bool (o)]), .inl (.tuple #[nv (Z), .bool (o)]), .inl (nv (Z)), .inl (.bool (o)), .inr [.int .u64 0, .int .u64 0, .int .u64 0, .int .u64 0]] [10] (by kernel_rfl) (by kernel_rfl) (by kernel_rfl) (by kernel_rfl) rfl (by kernel_rfl) (by kernel_rfl) (late_cons ⟨_, _, rfl, rfl, fun _ _ _ _ h => h, fun f hd => ⟨rfl, la_un (fun v => Instr.extract v 1) (.tmp 57) (.tuple #[nv (Z), .bool (o)]) (.bool (o)) (fun _ => rfl) (hd 8 rfl _ rfl) (fun w => by kernel_rfl)⟩⟩ late_nil) ?_ ?_ ?_
          · exact Ds.one 11 (fun q hq => by rcases q with _ | _ | _ | _ | _ | _ | _ | _ | _ | _ | _ | _ | q <;> first | rfl | cases hq) d9
          · refine ea_cons ?_ (ea_cons ?_ (ea_cons ?_ (ea_cons ?_ (ea_cons ?_ (ea_cons ?_ (ea_cons ?_ (ea_cons ?_ (ea_cons ?_ (ea_cons ?_ (ea_cons ?_ (ea_cons ?_ (ea_nil))))))))))))
            · exact og_eq (nv (pvk s k * 10)) rfl (fun f wf hq hd K hK => have Q52 := Q52.mo hq; go_run rfl (wo_load 24 (.tmp 8) (pt (kf51 7) 0) (nv (pvk s k * 10)) rfl rfl (run_row Q52 24 0 4 (nvli (pvk s k * 10)) rfl Try.underlying24 rfl sz24) (hK _ (Mo.refl _))))
            · exact og_eq (.string s) rfl (fun f wf hq hd K hK => go_run rfl (wo_mv (.tmp 0) (.string s) (fun _ => rfl) e0 (hK _ (Mo.refl _))))
            · exact og_eq (.int .i64 ((k : Int))) rfl (fun f wf hq hd K hK => go_run rfl (wo_mv (.tmp 6) (.int .i64 ((k : Int))) (fun _ => rfl) e6 (hK _ (Mo.refl _))))
            · exact og_eq (.int .u8 (s[k].toNat : Int)) rfl (fun f wf hq hd K hK => go_run rfl (wo_bin (fun x y => Instr.index 9 x y) (.tmp 59) (.tmp 60) (.string s) (.int .i64 ((k : Int))) (.int .u8 (s[k].toNat : Int)) (fun _ => rfl) (hd 1 rfl) (hd 2 rfl) (idx_s s k hlt _) (hK _ (Mo.refl _))))
            · exact og_eq (.int .u8 ((s[k].toNat : Int) - 48)) rfl (fun f wf hq hd K hK => go_run rfl (wo_bin (fun x y => do eqGuard .sub 5 (.tmp 61) (.const (.int .u8 (48))) x y; binOp .sub 5 x y) (.tmp 61) (.const (.int .u8 (48))) (.int .u8 (s[k].toNat : Int)) (.int .u8 (48)) (.int .u8 ((s[k].toNat : Int) - 48)) (fun _ => rfl) (hd 3 rfl) rfl (subu8_run hc.1 hc.2 _ _ _) (hK _ (Mo.refl _))))
            · exact og_eq (.int .u64 ((s[k].toNat : Int) - 48)) rfl (fun f wf hq hd K hK => go_run rfl (wo_un (fun v => convert 5 22 v) (.tmp 62) (.int .u8 ((s[k].toNat : Int) - 48)) (.int .u64 ((s[k].toNat : Int) - 48)) (fun _ => rfl) (hd 4 rfl) (cv8_run (by omega) (by omega) _) (hK _ (Mo.refl _))))
            · exact og_eq (nv (((s[k].toNat : Int) - 48))) rfl (fun f wf hq hd K hK => go_run rfl (wo_call 69 [(.tmp 63)] _ [.int .u64 ((s[k].toNat : Int) - 48)] (nv (((s[k].toNat : Int) - 48))) rfl (li1 (hd 5 rfl)) (fun _ _ => by kernel_rfl) (from34_any ((s[k].toNat : Int) - 48) _ ⟨by omega, by omega⟩) hK))
            · exact og_eq (.tuple #[nv (Z), .bool (o)]) rfl (fun f wf hq hd K hK => go_run rfl (wo_call 64 [(.tmp 58), (.tmp 64)] _ [nv (pvk s k * 10), nv (((s[k].toNat : Int) - 48))] (.tuple #[nv (Z), .bool (o)]) rfl (li2 (hd 0 rfl) (hd 6 rfl)) (fun _ _ => by kernel_rfl) (hsum _) hK))
            · exact og_eq (.tuple #[nv (Z), .bool (o)]) rfl (fun f wf hq hd K hK => go_run rfl (wo_mv (.tmp 65) (.tuple #[nv (Z), .bool (o)]) (fun _ => rfl) (hd 7 rfl) (hK _ (Mo.refl _))))
            · exact og_eq (nv (Z)) rfl (fun f wf hq hd K hK => go_run rfl (wo_un (fun v => Instr.extract v 0) (.tmp 57) (.tuple #[nv (Z), .bool (o)]) (nv (Z)) (fun _ => rfl) (hd 8 rfl) (by kernel_rfl) (hK _ (Mo.refl _))))
            · exact og_eq (.bool (o)) rfl (fun f wf hq hd K hK => go_run rfl (wo_un (fun v => Instr.extract v 1) (.tmp 57) (.tuple #[nv (Z), .bool (o)]) (.bool (o)) (fun _ => rfl) (hd 8 rfl) (by kernel_rfl) (hK _ (Mo.refl _))))
            · exact og_new [.int .u64 0, .int .u64 0, .int .u64 0, .int .u64 0] rfl (fun f wf hq hd K hK => go_run rfl (wo_alloc 24 #[.int .u64 0, .int .u64 0, .int .u64 0, .int .u64 0] rfl (fun _ => by kernel_rfl) hK))
          intro kf54 w54 hq hR hne
          obtain ⟨N_k53, Q53⟩ := hR 11 _ rfl rfl
          have ne_k1_k53 : k1 ≠ (kf54 11) := by have := Q1.lt; omega
          have ne_k21_k53 : k21 ≠ (kf54 11) := by have := Q21.lt; omega
          have ne_k51_k53 : (kf51 6) ≠ (kf54 11) := by have := Q51.lt; omega
          have ne_k52_k53 : (kf51 7) ≠ (kf54 11) := by have := Q52.lt; omega
          replace N_k53 := Nat.le_trans M.size N_k53
          replace d9 := fun k h => Nat.lt_of_lt_of_le (d9 k h) hq.size
          replace Q1 := Q1.mo hq
          replace Q21 := Q21.mo hq
          replace Q51 := Q51.mo hq
          replace Q52 := Q52.mo hq
          replace M := M.trans hq
          clear hq hR hne
          refine wl_st 24 (.tmp 9) (.tmp 66) (kf54 11) 0 (nvar (Z)) [.int .u64 0, .int .u64 0, .int .u64 0, .int .u64 0] (nvli (Z)) Q53 rfl rfl rfl rfl rfl sz24 rfl rfl rfl ?_
          intro w55 hS Qn
          replace Q53 := Qn
          clear Qn
          replace Q1 := hS.other _ _ ne_k1_k53 Q1
          replace Q21 := hS.other _ _ ne_k21_k53 Q21
          replace Q51 := hS.other _ _ ne_k51_k53 Q51
          replace Q52 := hS.other _ _ ne_k52_k53 Q52
          replace d9 := fun k h => Nat.lt_of_lt_of_le (d9 k h) (Nat.le_of_eq hS.size.symm)
          replace M := hS.mo _ N_k53 M
          clear hS
          refine wl_mv (.tmp 67) (.bool (o)) (fun _ => rfl) rfl rfl ?_
          refine w_nil ?_
          refine xn_then ?_
          refine w_seq ?_
          refine w_seq ?_
          refine w_reg ?_
          refine wl_load 24 (.tmp 7) (pt (kf51 6) 0) (nv (pvk s k * 10 / MM)) rfl rfl (run_row Q51 24 0 4 (nvli (pvk s k * 10 / MM)) rfl Try.underlying24 rfl sz24) rfl ?_
          refine wl_build 24 [] [] (.agg #[.int .u64 0, .int .u64 0, .int .u64 0, .int .u64 0]) rfl rfl (by kernel_rfl) rfl ?_
          refine wl_bin (fun x y => do eqGuard .neq 24 (.tmp 68) (.tmp 69) x y; binOp .neq 24 x y) (.tmp 68) (.tmp 69) (nv (pvk s k * 10 / MM)) (.agg #[.int .u64 0, .int .u64 0, .int .u64 0, .int .u64 0]) (.bool true) (fun _ => rfl) rfl rfl (nen_run (r := false) hz _ _ _) rfl ?_
          refine wl_mv (.tmp 70) (.bool true) (fun _ => rfl) rfl rfl ?_
          refine wl_skip rfl ?_
          refine wl_pick (.tmp 71) (.const (.bool true)) (.tmp 72) true (.bool true) (fun _ => rfl) rfl rfl rfl ?_
          refine w_nil ?_
          refine xn_then ?_
          refine w_condT rfl ?_
          refine w_seq ?_
          refine w_reg ?_
          refine wl_build 24 [] [] (.agg #[.int .u64 0, .int .u64 0, .int .u64 0, .int .u64 0]) rfl rfl (by kernel_rfl) rfl ?_
          refine wl_st 24 (.tmp 2) (.tmp 74) k1 0 #[.int .u64 0, .int .u64 0, .int .u64 0, .int .u64 0] [.int .u64 0, .int .u64 0, .int .u64 0, .int .u64 0] [.int .u64 0, .int .u64 0, .int .u64 0, .int .u64 0] Q1 rfl rfl e2 rfl rfl sz24 rfl rfl rfl ?_
          intro w56 hS Qn
          replace Q1 := Qn
          clear Qn
          replace Q21 := hS.other _ _ ne_k1_k21.symm Q21
          replace Q51 := hS.other _ _ ne_k1_k51.symm Q51
          replace Q52 := hS.other _ _ ne_k1_k52.symm Q52
          replace Q53 := hS.other _ _ ne_k1_k53.symm Q53
          replace d9 := fun k h => Nat.lt_of_lt_of_le (d9 k h) (Nat.le_of_eq hS.size.symm)
          replace M := hS.mo _ N_k1 M
          clear hS
          refine wl_mv (.const (.int .i64 (7))) (.int .i64 (7)) (fun _ => rfl) rfl rfl ?_
          refine w_nil ?_
          refine xn_then ?_
          refine w_ret ?_
          refine xr_then ?_
          refine xr_blk ?_
          refine xr_then ?_
          refine xr_then ?_
          refine xr_blk ?_
          refine xr_then ?_
          exact w_ret2 _ _ (.agg #[.int .u64 0, .int .u64 0, .int .u64 0, .int .u64 0]) (.int .i64 (7)) rfl ⟨k1, e2, (run_row Q1 24 0 4 [.int .u64 0, .int .u64 0, .int .u64 0, .int .u64 0] rfl Try.underlying24 rfl sz24)⟩ rfl ⟨by rw [resP_over hT hlt hbig], M⟩
      · have hl : decide ((k : Int) < (s.size : Int)) = false := decide_eq_false (by omega)
        refine w_seq ?_
        refine w_seq ?_
        refine w_reg ?_
        refine wl_mv (.tmp 6) (.int .i64 ((k : Int))) (fun _ => rfl) e6 rfl ?_
        refine wl_mv (.tmp 0) (.string s) (fun _ => rfl) e0 rfl ?_
        refine wl_val (.int .i64 ((s.size : Int))) (len_run _ _ s rfl _ _ _ _ _ _) rfl ?_
        refine wl_bin (fun x y => do eqGuard .lss 3 (.tmp 45) (.tmp 47) x y; binOp .lss 3 x y) (.tmp 45) (.tmp 47) (.int .i64 ((k : Int))) (.int .i64 ((s.size : Int))) (.bool false) (fun _ => rfl) rfl rfl (lt3_run hl _ _ _) rfl ?_
        refine w_nil ?_
        refine xn_then ?_
        refine w_condF rfl ?_
        refine w_exit ?_
        refine xx_then ?_
        refine xx_then ?_
        refine xx_blk ?_
        refine xn_then ?_
        refine w_seq ?_
        refine w_reg ?_
        refine wl_load 24 (.tmp 5) (pt k21 0) (nv (pvk s k)) rfl e5 (run_row Q21 24 0 4 (nvli (pvk s k)) rfl Try.underlying24 rfl sz24) rfl ?_
        refine wl_st 24 (.tmp 2) (.tmp 76) k1 0 (nvar (pvk s k)) [.int .u64 0, .int .u64 0, .int .u64 0, .int .u64 0] (nvli (pvk s k)) Q1 rfl rfl e2 rfl rfl sz24 rfl rfl rfl ?_
        intro w51 hS Qn
        replace Q1 := Qn
        clear Qn
        replace Q21 := hS.other _ _ ne_k1_k21.symm Q21
        replace d9 := fun k h => Nat.lt_of_lt_of_le (d9 k h) (Nat.le_of_eq hS.size.symm)
        replace M := hS.mo _ N_k1 M
        clear hS
        refine wl_mv (.const (.int .i64 (0))) (.int .i64 (0)) (fun _ => rfl) rfl rfl ?_
        refine w_nil ?_
        refine xn_then ?_
        refine w_ret ?_
        exact w_ret2 _ _ (nv (pvk s k)) (.int .i64 (0)) rfl ⟨k1, e2, (run_row Q1 24 0 4 (nvli (pvk s k)) rfl Try.underlying24 rfl sz24)⟩ rfl ⟨by rw [resP_ok (pvk_end hk hlt hv), ← pvk_eq hk hlt], M⟩
theorem rparse_b (s : ByteArray) (w : World) [Decidable (isT s)] (hs : s.size ≤ maxLen) (h0 : s.toList.isEmpty = false) (hp : 0 < s.size) (hlead : ¬ (s.size > 1 ∧ (s[0].toNat : Int) = 48)) (hz0 : s.size > 1 → (s[0].toNat : Int) ≠ 48) (h1 : ((s[0].toNat : Int) == 48) = true) (h2 : decide ((s.size : Int) > 1) = false) : Calls Try.prog 21 #[.string s] w fun e w' => e = .returned (if isT s then resP s else ez 10) ∧ Mo w w' := by
  refine w_enter 77 Try.func21 Try.ntmps21 rfl rfl ?_
  have M : Mo w w := Mo.refl _
  refine w_seq ?_
  refine w_reg ?_
  refine wl_alloc 24 #[.int .u64 0, .int .u64 0, .int .u64 0, .int .u64 0] rfl (fun _ => by kernel_rfl) rfl ?_
  intro k1 w1 hk hz hq Q1
  have N_k1 : w.heap.size ≤ k1 := by have := M.size; omega
  replace M := M.trans hq
  clear hk hz hq
  refine wl_mv (.const (.int .i64 (0))) (.int .i64 (0)) (fun _ => rfl) rfl rfl ?_
  refine w_nil ?_
  refine xn_then ?_
  refine w_seq ?_
  refine w_seq ?_
  refine w_reg ?_
  refine wl_mv (.tmp 0) (.string s) (fun _ => rfl) rfl rfl ?_
  refine wl_bin (fun x y => do eqGuard .eql 9 (.tmp 11) (.const (.string ⟨#[]⟩)) x y; binOp .eql 9 x y) (.tmp 11) (.const (.string ⟨#[]⟩)) (.string s) (.string ⟨#[]⟩) (.bool false) (fun _ => rfl) rfl rfl (eqe_run h0 _ _ _) rfl ?_
  refine wl_mv (.tmp 12) (.bool false) (fun _ => rfl) rfl rfl ?_
  refine wl_mv (.tmp 0) (.string s) (fun _ => rfl) rfl rfl ?_
  refine wl_bin (fun x y => Instr.index 9 x y) (.tmp 14) (.const (.int .i64 (0))) (.string s) (.int .i64 (0)) (.int .u8 (s[0].toNat : Int)) (fun _ => rfl) rfl rfl (idx_0 s hp _) rfl ?_
  refine wl_bin (fun x y => do eqGuard .eql 5 (.tmp 15) (.const (.int .u8 (48))) x y; binOp .eql 5 x y) (.tmp 15) (.const (.int .u8 (48))) (.int .u8 (s[0].toNat : Int)) (.int .u8 (48)) (.bool true) (fun _ => rfl) rfl rfl (eq5_run h1 _ _ _) rfl ?_
  refine wl_mv (.tmp 16) (.bool true) (fun _ => rfl) rfl rfl ?_
  refine wl_mv (.tmp 0) (.string s) (fun _ => rfl) rfl rfl ?_
  refine wl_val (.int .i64 ((s.size : Int))) (len_run _ _ s rfl _ _ _ _ _ _) rfl ?_
  refine wl_bin (fun x y => do eqGuard .gtr 3 (.tmp 19) (.const (.int .i64 (1))) x y; binOp .gtr 3 x y) (.tmp 19) (.const (.int .i64 (1))) (.int .i64 ((s.size : Int))) (.int .i64 (1)) (.bool false) (fun _ => rfl) rfl rfl (gt3_run h2 _ _ _) rfl ?_
  refine wl_pick (.tmp 17) (.tmp 20) (.const (.bool false)) true (.bool false) (fun _ => rfl) rfl rfl rfl ?_
  refine wl_pick (.tmp 13) (.const (.bool true)) (.tmp 21) false (.bool false) (fun _ => rfl) rfl rfl rfl ?_
  refine w_nil ?_
  refine xn_then ?_
  refine w_condF rfl ?_
  refine w_skip ?_
  refine xn_then ?_
  refine w_seq ?_
  refine w_seq ?_
  refine w_reg ?_
  refine wl_mv (.const (.int .i64 (0))) (.int .i64 (0)) (fun _ => rfl) rfl rfl ?_
  refine w_nil ?_
  refine xn_then ?_
  refine w_block ?_
  refine w_loop (fun m l w1 => ∃ k : Nat, k + m = s.size ∧ look l 0 = .string s ∧ look l 4 = .int .i64 (k : Int) ∧ look l 2 = pt k1 0 ∧ At w1 k1 [.int .u64 0, .int .u64 0, .int .u64 0, .int .u64 0] ∧ dgs s k ∧ Mo w w1 ∧ (isPt (look l 7) = false ∧ isPt (look l 8) = false ∧ isPt (look l 9) = false)) s.size ⟨0, by omega, rfl, rfl, rfl, Q1, fun j _ h => absurd h (Nat.not_lt_zero _), M, rfl, rfl, rfl⟩ ?_
  clear M Q1
  rintro m l wl ⟨k, hk, e0, e4, e2, Q1, hd, M, i7, i8, i9⟩
  by_cases hlt : k < s.size
  · have hl : decide ((k : Int) < (s.size : Int)) = true := decide_eq_true (by omega)
    cases ha : decide ((s[k].toNat : Int) < 48) with
    | true =>
      refine w_seq ?_
      refine w_seq ?_
      refine w_reg ?_
      refine wl_mv (.tmp 4) (.int .i64 ((k : Int))) (fun _ => rfl) e4 rfl ?_
      refine wl_mv (.tmp 0) (.string s) (fun _ => rfl) e0 rfl ?_
      refine wl_val (.int .i64 ((s.size : Int))) (len_run _ _ s rfl _ _ _ _ _ _) rfl ?_
      refine wl_bin (fun x y => do eqGuard .lss 3 (.tmp 24) (.tmp 26) x y; binOp .lss 3 x y) (.tmp 24) (.tmp 26) (.int .i64 ((k : Int))) (.int .i64 ((s.size : Int))) (.bool true) (fun _ => rfl) rfl rfl (lt3_run hl _ _ _) rfl ?_
      refine w_nil ?_
      refine xn_then ?_
      refine w_condT rfl ?_
      refine w_skip ?_
      refine xn_then ?_
      refine w_seq ?_
      refine w_block ?_
      refine w_seq ?_
      refine w_reg ?_
      refine wl_mv (.tmp 0) (.string s) (fun _ => rfl) e0 rfl ?_
      refine wl_mv (.tmp 4) (.int .i64 ((k : Int))) (fun _ => rfl) e4 rfl ?_
      refine wl_bin (fun x y => Instr.index 9 x y) (.tmp 30) (.tmp 31) (.string s) (.int .i64 ((k : Int))) (.int .u8 (s[k].toNat : Int)) (fun _ => rfl) rfl rfl (idx_s s k hlt _) rfl ?_
      refine wl_bin (fun x y => do eqGuard .lss 5 (.tmp 32) (.const (.int .u8 (48))) x y; binOp .lss 5 x y) (.tmp 32) (.const (.int .u8 (48))) (.int .u8 (s[k].toNat : Int)) (.int .u8 (48)) (.bool true) (fun _ => rfl) rfl rfl (ls5 ha _ _ _) rfl ?_
      refine wl_mv (.tmp 33) (.bool true) (fun _ => rfl) rfl rfl ?_
      refine wl_skip rfl ?_
      refine wl_skip rfl ?_
      refine wl_skip rfl ?_
      refine wl_skip rfl ?_
      refine wl_pick (.tmp 34) (.const (.bool true)) (.tmp 38) true (.bool true) (fun _ => rfl) rfl rfl rfl ?_
      refine w_nil ?_
      refine xn_then ?_
      refine w_condT rfl ?_
      refine w_seq ?_
      refine w_reg ?_
      refine wl_build 24 [] [] (.agg #[.int .u64 0, .int .u64 0, .int .u64 0, .int .u64 0]) rfl rfl (by kernel_rfl) rfl ?_
      refine wl_st 24 (.tmp 2) (.tmp 40) k1 0 #[.int .u64 0, .int .u64 0, .int .u64 0, .int .u64 0] [.int .u64 0, .int .u64 0, .int .u64 0, .int .u64 0] [.int .u64 0, .int .u64 0, .int .u64 0, .int .u64 0] Q1 rfl rfl e2 rfl rfl sz24 rfl rfl rfl ?_
      intro w21 hS Qn
      replace Q1 := Qn
      clear Qn
      replace M := hS.mo _ N_k1 M
      clear hS
      refine wl_mv (.const (.int .i64 (10))) (.int .i64 (10)) (fun _ => rfl) rfl rfl ?_
      refine w_nil ?_
      refine xn_then ?_
      refine w_ret ?_
      refine xr_blk ?_
      refine xr_then ?_
      refine xr_then ?_
      refine xr_blk ?_
      refine xr_then ?_
      exact w_ret2 _ _ (.agg #[.int .u64 0, .int .u64 0, .int .u64 0, .int .u64 0]) (.int .i64 (10)) rfl ⟨k1, e2, (run_row Q1 24 0 4 [.int .u64 0, .int .u64 0, .int .u64 0, .int .u64 0] rfl Try.underlying24 rfl sz24)⟩ rfl ⟨by rw [if_neg (fun hT : isT s => by obtain ⟨_, _, h3⟩ := hT; have := h3 k hlt hlt; have := of_decide_eq_true ha; omega)], M⟩
    | false =>
      cases hb : decide ((s[k].toNat : Int) > 57) with
      | true =>
        refine w_seq ?_
        refine w_seq ?_
        refine w_reg ?_
        refine wl_mv (.tmp 4) (.int .i64 ((k : Int))) (fun _ => rfl) e4 rfl ?_
        refine wl_mv (.tmp 0) (.string s) (fun _ => rfl) e0 rfl ?_
        refine wl_val (.int .i64 ((s.size : Int))) (len_run _ _ s rfl _ _ _ _ _ _) rfl ?_
        refine wl_bin (fun x y => do eqGuard .lss 3 (.tmp 24) (.tmp 26) x y; binOp .lss 3 x y) (.tmp 24) (.tmp 26) (.int .i64 ((k : Int))) (.int .i64 ((s.size : Int))) (.bool true) (fun _ => rfl) rfl rfl (lt3_run hl _ _ _) rfl ?_
        refine w_nil ?_
        refine xn_then ?_
        refine w_condT rfl ?_
        refine w_skip ?_
        refine xn_then ?_
        refine w_seq ?_
        refine w_block ?_
        refine w_seq ?_
        refine w_reg ?_
        refine wl_mv (.tmp 0) (.string s) (fun _ => rfl) e0 rfl ?_
        refine wl_mv (.tmp 4) (.int .i64 ((k : Int))) (fun _ => rfl) e4 rfl ?_
        refine wl_bin (fun x y => Instr.index 9 x y) (.tmp 30) (.tmp 31) (.string s) (.int .i64 ((k : Int))) (.int .u8 (s[k].toNat : Int)) (fun _ => rfl) rfl rfl (idx_s s k hlt _) rfl ?_
        refine wl_bin (fun x y => do eqGuard .lss 5 (.tmp 32) (.const (.int .u8 (48))) x y; binOp .lss 5 x y) (.tmp 32) (.const (.int .u8 (48))) (.int .u8 (s[k].toNat : Int)) (.int .u8 (48)) (.bool false) (fun _ => rfl) rfl rfl (ls5 ha _ _ _) rfl ?_
        refine wl_mv (.tmp 33) (.bool false) (fun _ => rfl) rfl rfl ?_
        refine wl_mv (.tmp 0) (.string s) (fun _ => rfl) e0 rfl ?_
        refine wl_mv (.tmp 4) (.int .i64 ((k : Int))) (fun _ => rfl) e4 rfl ?_
        refine wl_bin (fun x y => Instr.index 9 x y) (.tmp 35) (.tmp 36) (.string s) (.int .i64 ((k : Int))) (.int .u8 (s[k].toNat : Int)) (fun _ => rfl) rfl rfl (idx_s s k hlt _) rfl ?_
        refine wl_bin (fun x y => do eqGuard .gtr 5 (.tmp 37) (.const (.int .u8 (57))) x y; binOp .gtr 5 x y) (.tmp 37) (.const (.int .u8 (57))) (.int .u8 (s[k].toNat : Int)) (.int .u8 (57)) (.bool true) (fun _ => rfl) rfl rfl (gt5_run hb _ _ _) rfl ?_
        refine wl_pick (.tmp 34) (.const (.bool true)) (.tmp 38) false (.bool true) (fun _ => rfl) rfl rfl rfl ?_
        refine w_nil ?_
        refine xn_then ?_
        refine w_condT rfl ?_
        refine w_seq ?_
        refine w_reg ?_
        refine wl_build 24 [] [] (.agg #[.int .u64 0, .int .u64 0, .int .u64 0, .int .u64 0]) rfl rfl (by kernel_rfl) rfl ?_
        refine wl_st 24 (.tmp 2) (.tmp 40) k1 0 #[.int .u64 0, .int .u64 0, .int .u64 0, .int .u64 0] [.int .u64 0, .int .u64 0, .int .u64 0, .int .u64 0] [.int .u64 0, .int .u64 0, .int .u64 0, .int .u64 0] Q1 rfl rfl e2 rfl rfl sz24 rfl rfl rfl ?_
        intro w21 hS Qn
        replace Q1 := Qn
        clear Qn
        replace M := hS.mo _ N_k1 M
        clear hS
        refine wl_mv (.const (.int .i64 (10))) (.int .i64 (10)) (fun _ => rfl) rfl rfl ?_
        refine w_nil ?_
        refine xn_then ?_
        refine w_ret ?_
        refine xr_blk ?_
        refine xr_then ?_
        refine xr_then ?_
        refine xr_blk ?_
        refine xr_then ?_
        exact w_ret2 _ _ (.agg #[.int .u64 0, .int .u64 0, .int .u64 0, .int .u64 0]) (.int .i64 (10)) rfl ⟨k1, e2, (run_row Q1 24 0 4 [.int .u64 0, .int .u64 0, .int .u64 0, .int .u64 0] rfl Try.underlying24 rfl sz24)⟩ rfl ⟨by rw [if_neg (fun hT : isT s => by obtain ⟨_, _, h3⟩ := hT; have := h3 k hlt hlt; have := of_decide_eq_true hb; omega)], M⟩
      | false =>
        refine w_seq ?_
        refine w_seq ?_
        refine w_reg ?_
        refine wl_mv (.tmp 4) (.int .i64 ((k : Int))) (fun _ => rfl) e4 rfl ?_
        refine wl_mv (.tmp 0) (.string s) (fun _ => rfl) e0 rfl ?_
        refine wl_val (.int .i64 ((s.size : Int))) (len_run _ _ s rfl _ _ _ _ _ _) rfl ?_
        refine wl_bin (fun x y => do eqGuard .lss 3 (.tmp 24) (.tmp 26) x y; binOp .lss 3 x y) (.tmp 24) (.tmp 26) (.int .i64 ((k : Int))) (.int .i64 ((s.size : Int))) (.bool true) (fun _ => rfl) rfl rfl (lt3_run hl _ _ _) rfl ?_
        refine w_nil ?_
        refine xn_then ?_
        refine w_condT rfl ?_
        refine w_skip ?_
        refine xn_then ?_
        refine w_seq ?_
        refine w_block ?_
        refine w_seq ?_
        refine w_reg ?_
        refine wl_mv (.tmp 0) (.string s) (fun _ => rfl) e0 rfl ?_
        refine wl_mv (.tmp 4) (.int .i64 ((k : Int))) (fun _ => rfl) e4 rfl ?_
        refine wl_bin (fun x y => Instr.index 9 x y) (.tmp 30) (.tmp 31) (.string s) (.int .i64 ((k : Int))) (.int .u8 (s[k].toNat : Int)) (fun _ => rfl) rfl rfl (idx_s s k hlt _) rfl ?_
        refine wl_bin (fun x y => do eqGuard .lss 5 (.tmp 32) (.const (.int .u8 (48))) x y; binOp .lss 5 x y) (.tmp 32) (.const (.int .u8 (48))) (.int .u8 (s[k].toNat : Int)) (.int .u8 (48)) (.bool false) (fun _ => rfl) rfl rfl (ls5 ha _ _ _) rfl ?_
        refine wl_mv (.tmp 33) (.bool false) (fun _ => rfl) rfl rfl ?_
        refine wl_mv (.tmp 0) (.string s) (fun _ => rfl) e0 rfl ?_
        refine wl_mv (.tmp 4) (.int .i64 ((k : Int))) (fun _ => rfl) e4 rfl ?_
        refine wl_bin (fun x y => Instr.index 9 x y) (.tmp 35) (.tmp 36) (.string s) (.int .i64 ((k : Int))) (.int .u8 (s[k].toNat : Int)) (fun _ => rfl) rfl rfl (idx_s s k hlt _) rfl ?_
        refine wl_bin (fun x y => do eqGuard .gtr 5 (.tmp 37) (.const (.int .u8 (57))) x y; binOp .gtr 5 x y) (.tmp 37) (.const (.int .u8 (57))) (.int .u8 (s[k].toNat : Int)) (.int .u8 (57)) (.bool false) (fun _ => rfl) rfl rfl (gt5_run hb _ _ _) rfl ?_
        refine wl_pick (.tmp 34) (.const (.bool true)) (.tmp 38) false (.bool false) (fun _ => rfl) rfl rfl rfl ?_
        refine w_nil ?_
        refine xn_then ?_
        refine w_condF rfl ?_
        refine w_skip ?_
        refine xn_blk ?_
        refine xn_then ?_
        refine w_reg ?_
        refine wl_mv (.tmp 4) (.int .i64 ((k : Int))) (fun _ => rfl) e4 rfl ?_
        refine wl_bin (fun x y => do eqGuard .add 3 (.tmp 28) (.const (.int .i64 (1))) x y; binOp .add 3 x y) (.tmp 28) (.const (.int .i64 (1))) (.int .i64 ((k : Int))) (.int .i64 (1)) (.int .i64 (((k + 1 : Nat) : Int))) (fun _ => rfl) rfl rfl (add1_run (by unfold maxLen at hs; omega) _ _ _) rfl ?_
        refine wl_mv (.tmp 29) (.int .i64 (((k + 1 : Nat) : Int))) (fun _ => rfl) rfl rfl ?_
        refine w_nil ?_
        exact xn_loop (s.size - (k + 1)) (by omega) ⟨k + 1, by omega, e0, rfl, e2, Q1, dgs_succ hlt hd (by have := of_decide_eq_false ha; omega) (by have := of_decide_eq_false hb; omega), M, i7, i8, i9⟩
  · have hl : decide ((k : Int) < (s.size : Int)) = false := decide_eq_false (by omega)
    cases h78 : decide ((s.size : Int) > 78) with
    | true =>
      refine w_seq ?_
      refine w_seq ?_
      refine w_reg ?_
      refine wl_mv (.tmp 4) (.int .i64 ((k : Int))) (fun _ => rfl) e4 rfl ?_
      refine wl_mv (.tmp 0) (.string s) (fun _ => rfl) e0 rfl ?_
      refine wl_val (.int .i64 ((s.size : Int))) (len_run _ _ s rfl _ _ _ _ _ _) rfl ?_
      refine wl_bin (fun x y => do eqGuard .lss 3 (.tmp 24) (.tmp 26) x y; binOp .lss 3 x y) (.tmp 24) (.tmp 26) (.int .i64 ((k : Int))) (.int .i64 ((s.size : Int))) (.bool false) (fun _ => rfl) rfl rfl (lt3_run hl _ _ _) rfl ?_
      refine w_nil ?_
      refine xn_then ?_
      refine w_condF rfl ?_
      refine w_exit ?_
      refine xx_then ?_
      refine xx_then ?_
      refine xx_blk ?_
      refine xn_then ?_
      refine w_seq ?_
      refine w_seq ?_
      refine w_reg ?_
      refine wl_mv (.tmp 0) (.string s) (fun _ => rfl) e0 rfl ?_
      refine wl_val (.int .i64 ((s.size : Int))) (len_run _ _ s rfl _ _ _ _ _ _) rfl ?_
      refine wl_bin (fun x y => do eqGuard .gtr 3 (.tmp 42) (.const (.int .i64 (78))) x y; binOp .gtr 3 x y) (.tmp 42) (.const (.int .i64 (78))) (.int .i64 ((s.size : Int))) (.int .i64 (78)) (.bool true) (fun _ => rfl) rfl rfl (gt3_run h78 _ _ _) rfl ?_
      refine w_nil ?_
      refine xn_then ?_
      refine w_condT rfl ?_
      refine w_seq ?_
      refine w_reg ?_
      refine wl_build 24 [] [] (.agg #[.int .u64 0, .int .u64 0, .int .u64 0, .int .u64 0]) rfl rfl (by kernel_rfl) rfl ?_
      refine wl_st 24 (.tmp 2) (.tmp 44) k1 0 #[.int .u64 0, .int .u64 0, .int .u64 0, .int .u64 0] [.int .u64 0, .int .u64 0, .int .u64 0, .int .u64 0] [.int .u64 0, .int .u64 0, .int .u64 0, .int .u64 0] Q1 rfl rfl e2 rfl rfl sz24 rfl rfl rfl ?_
      intro w21 hS Qn
      replace Q1 := Qn
      clear Qn
      replace M := hS.mo _ N_k1 M
      clear hS
      refine wl_mv (.const (.int .i64 (7))) (.int .i64 (7)) (fun _ => rfl) rfl rfl ?_
      refine w_nil ?_
      refine xn_then ?_
      refine w_ret ?_
      refine xr_then ?_
      exact w_ret2 _ _ (.agg #[.int .u64 0, .int .u64 0, .int .u64 0, .int .u64 0]) (.int .i64 (7)) rfl ⟨k1, e2, (run_row Q1 24 0 4 [.int .u64 0, .int .u64 0, .int .u64 0, .int .u64 0] rfl Try.underlying24 rfl sz24)⟩ rfl ⟨by rw [if_pos (isT_mk hp hlead (by omega) hd), resP_long hp (dgs_end hk hlt hd) hz0 (by have := of_decide_eq_true h78; omega)], M⟩
    | false =>
      refine w_seq ?_
      refine w_seq ?_
      refine w_reg ?_
      refine wl_mv (.tmp 4) (.int .i64 ((k : Int))) (fun _ => rfl) e4 rfl ?_
      refine wl_mv (.tmp 0) (.string s) (fun _ => rfl) e0 rfl ?_
      refine wl_val (.int .i64 ((s.size : Int))) (len_run _ _ s rfl _ _ _ _ _ _) rfl ?_
      refine wl_bin (fun x y => do eqGuard .lss 3 (.tmp 24) (.tmp 26) x y; binOp .lss 3 x y) (.tmp 24) (.tmp 26) (.int .i64 ((k : Int))) (.int .i64 ((s.size : Int))) (.bool false) (fun _ => rfl) rfl rfl (lt3_run hl _ _ _) rfl ?_
      refine w_nil ?_
      refine xn_then ?_
      refine w_condF rfl ?_
      refine w_exit ?_
      refine xx_then ?_
      refine xx_then ?_
      refine xx_blk ?_
      refine xn_then ?_
      refine w_seq ?_
      refine w_seq ?_
      refine w_reg ?_
      refine wl_mv (.tmp 0) (.string s) (fun _ => rfl) e0 rfl ?_
      refine wl_val (.int .i64 ((s.size : Int))) (len_run _ _ s rfl _ _ _ _ _ _) rfl ?_
      refine wl_bin (fun x y => do eqGuard .gtr 3 (.tmp 42) (.const (.int .i64 (78))) x y; binOp .gtr 3 x y) (.tmp 42) (.const (.int .i64 (78))) (.int .i64 ((s.size : Int))) (.int .i64 (78)) (.bool false) (fun _ => rfl) rfl rfl (gt3_run h78 _ _ _) rfl ?_
      refine w_nil ?_
      refine xn_then ?_
      refine w_condF rfl ?_
      refine w_skip ?_
      refine xn_then ?_
      refine w_seq ?_
      refine w_reg ?_
      refine wl_alloc 24 #[.int .u64 0, .int .u64 0, .int .u64 0, .int .u64 0] rfl (fun _ => by kernel_rfl) rfl ?_
      intro k21 w21 hk hz hq Q21
      have ne_k1_k21 : k1 ≠ k21 := by have := Q1.lt; omega
      have N_k21 : w.heap.size ≤ k21 := by have := M.size; omega
      replace Q1 := Q1.mo hq
      replace M := M.trans hq
      clear hk hz hq
      refine w_nil ?_
      refine xn_then ?_
      refine w_seq ?_
      refine w_seq ?_
      refine w_reg ?_
      refine wl_mv (.const (.int .i64 (0))) (.int .i64 (0)) (fun _ => rfl) rfl rfl ?_
      refine w_nil ?_
      refine xn_then ?_
      refine w_block ?_
      rw [if_pos (isT_mk hp hlead (by omega) hd)]
      have hT := dgs_end hk hlt hd
      refine w_loop (fun m l w1 => ∃ k : Nat, k + m = s.size ∧ look l 0 = .string s ∧ look l 6 = .int .i64 (k : Int) ∧ look l 2 = pt k1 0 ∧ look l 5 = pt k21 0 ∧ At w1 k1 [.int .u64 0, .int .u64 0, .int .u64 0, .int .u64 0] ∧ At w1 k21 (nvli (pvk s k)) ∧ pvk s k < MM ∧ Mo w w1 ∧ (∀ k, look l 7 = pt k 0 → k < w1.heap.size) ∧ (∀ k, look l 8 = pt k 0 → k < w1.heap.size) ∧ (∀ k, look l 7 = pt k 0 → look l 8 ≠ pt k 0) ∧ (∀ k, look l 9 = pt k 0 → k < w1.heap.size)) s.size ⟨0, by omega, e0, rfl, e2, rfl, Q1, Q21, by rw [pvk_z]; decide, M, (fun k h => (npt i7 h).elim), (fun k h => (npt i8 h).elim), (fun k h => (npt i7 h).elim), (fun k h => (npt i9 h).elim)⟩ ?_
      clear M Q1 Q21 hd hl h78 hk e0 e2 e4 i7 i8 i9 hlt
      rintro m2 l2 wl2 ⟨k, hk, e0, e6, e2, e5, Q1, Q21, hv, M, d7, d8, d78, d9⟩
      have hv0 := pvk_nn hT k (by omega)
      by_cases hlt : k < s.size
      · have hl : decide ((k : Int) < (s.size : Int)) = true := decide_eq_true (by omega)
        have hc := hT k hlt hlt
        have hsz := M.size
        by_cases hhi : pvk s k * 10 < MM
        · have hz := hi0z (show 0 ≤ pvk s k * 10 by omega) hhi
          by_cases hsm : pvk s k * 10 + ((s[k].toNat : Int) - 48) < MM
          · obtain ⟨Z, hZ⟩ : ∃ Z, Z = pvk s k * 10 + ((s[k].toNat : Int) - 48) := ⟨_, rfl⟩
            have hsum := fun w => rsum_ok (pvk s k * 10) ((s[k].toNat : Int) - 48) Z w (by omega) (by omega) hZ hhi hsm
            refine w_seq ?_
            refine w_seq ?_
            refine w_reg ?_
            refine wl_mv (.tmp 6) (.int .i64 ((k : Int))) (fun _ => rfl) e6 rfl ?_
            refine wl_mv (.tmp 0) (.string s) (fun _ => rfl) e0 rfl ?_
            refine wl_val (.int .i64 ((s.size : Int))) (len_run _ _ s rfl _ _ _ _ _ _) rfl ?_
            refine wl_bin (fun x y => do eqGuard .lss 3 (.tmp 45) (.tmp 47) x y; binOp .lss 3 x y) (.tmp 45) (.tmp 47) (.int .i64 ((k : Int))) (.int .i64 ((s.size : Int))) (.bool true) (fun _ => rfl) rfl rfl (lt3_run hl _ _ _) rfl ?_
            refine w_nil ?_
            refine xn_then ?_
            refine w_condT rfl ?_
            refine w_skip ?_
            refine xn_then ?_
            refine w_seq ?_
            refine w_block ?_
            refine w_seq ?_
            refine w_any 8 [.inl (nv (pvk s k)), .inl (nv (10)), .inl (.tuple #[nv (pvk s k * 10 / MM), nv (pvk s k * 10)]), .inl (.tuple #[nv (pvk s k * 10 / MM), nv (pvk s k * 10)]), .inl (nv (pvk s k * 10 / MM)), .inl (nv (pvk s k * 10)), .inr [.int .u64 0, .int .u64 0, .int .u64 0, .int .u64 0], .inr [.int .u64 0, .int .u64 0, .int .u64 0, .int .u64 0]] [5] (by kernel_rfl) (by kernel_rfl) (by kernel_rfl) (by kernel_rfl) rfl (by kernel_rfl) (by kernel_rfl) (late_cons ⟨_, _, rfl, rfl, fun _ _ _ _ h => h, fun f hd => ⟨rfl, la_un (fun v => Instr.extract v 1) (.tmp 51) (.tuple #[nv (pvk s k * 10 / MM), nv (pvk s k * 10)]) (nv (pvk s k * 10)) (fun _ => rfl) (hd 3 rfl _ rfl) (fun w => by kernel_rfl)⟩⟩ late_nil) ?_ ?_ ?_
            · exact Ds.two 6 7 (fun q hq => by rcases q with _ | _ | _ | _ | _ | _ | _ | _ | q <;> first | (left; rfl) | (right; rfl) | cases hq) d7 d8 d78
            · refine ea_cons ?_ (ea_cons ?_ (ea_cons ?_ (ea_cons ?_ (ea_cons ?_ (ea_cons ?_ (ea_cons ?_ (ea_cons ?_ (ea_nil))))))))
              · exact og_eq (nv (pvk s k)) rfl (fun f wf hq hd K hK => have Q21 := Q21.mo hq; go_run rfl (wo_load 24 (.tmp 5) (pt k21 0) (nv (pvk s k)) rfl e5 (run_row Q21 24 0 4 (nvli (pvk s k)) rfl Try.underlying24 rfl sz24) (hK _ (Mo.refl _))))
              · exact og_eq (nv (10)) rfl (fun f wf hq hd K hK => go_run rfl (wo_call 69 [(.const (.int .u64 (10)))] _ [.int .u64 (10)] (nv (10)) rfl rfl (fun _ _ => by kernel_rfl) (from69_n _) hK))
              · exact og_eq (.tuple #[nv (pvk s k * 10 / MM), nv (pvk s k * 10)]) rfl (fun f wf hq hd K hK => go_run rfl (wo_call 16 [(.tmp 52), (.tmp 53)] _ [nv (pvk s k), nv (10)] (.tuple #[nv (pvk s k * 10 / MM), nv (pvk s k * 10)]) rfl (li2 (hd 0 rfl) (hd 1 rfl)) (fun _ _ => by kernel_rfl) (rmul_n (pvk s k) 10 _ hv0 hv (by decide) (by decide)) hK))
              · exact og_eq (.tuple #[nv (pvk s k * 10 / MM), nv (pvk s k * 10)]) rfl (fun f wf hq hd K hK => go_run rfl (wo_mv (.tmp 54) (.tuple #[nv (pvk s k * 10 / MM), nv (pvk s k * 10)]) (fun _ => rfl) (hd 2 rfl) (hK _ (Mo.refl _))))
              · exact og_eq (nv (pvk s k * 10 / MM)) rfl (fun f wf hq hd K hK => go_run rfl (wo_un (fun v => Instr.extract v 0) (.tmp 51) (.tuple #[nv (pvk s k * 10 / MM), nv (pvk s k * 10)]) (nv (pvk s k * 10 / MM)) (fun _ => rfl) (hd 3 rfl) (by kernel_rfl) (hK _ (Mo.refl _))))
              · exact og_eq (nv (pvk s k * 10)) rfl (fun f wf hq hd K hK => go_run rfl (wo_un (fun v => Instr.extract v 1) (.tmp 51) (.tuple #[nv (pvk s k * 10 / MM), nv (pvk s k * 10)]) (nv (pvk s k * 10)) (fun _ => rfl) (hd 3 rfl) (by kernel_rfl) (hK _ (Mo.refl _))))
              · exact og_new [.int .u64 0, .int .u64 0, .int .u64 0, .int .u64 0] rfl (fun f wf hq hd K hK => go_run rfl (wo_alloc 24 #[.int .u64 0, .int .u64 0, .int .u64 0, .int .u64 0] rfl (fun _ => by kernel_rfl) hK))
              · exact og_new [.int .u64 0, .int .u64 0, .int .u64 0, .int .u64 0] rfl (fun f wf hq hd K hK => go_run rfl (wo_alloc 24 #[.int .u64 0, .int .u64 0, .int .u64 0, .int .u64 0] rfl (fun _ => by kernel_rfl) hK))
            intro kf51 w51 hq hR hne
            obtain ⟨N_k51, Q51⟩ := hR 6 _ rfl rfl
            obtain ⟨N_k52, Q52⟩ := hR 7 _ rfl rfl
            have ne_k1_k51 : k1 ≠ (kf51 6) := by have := Q1.lt; omega
            have ne_k21_k51 : k21 ≠ (kf51 6) := by have := Q21.lt; omega
            have ne_k51_k52 := hne 6 7 rfl rfl rfl rfl (by decide)
            replace N_k51 := Nat.le_trans M.size N_k51
            have ne_k1_k52 : k1 ≠ (kf51 7) := by have := Q1.lt; omega
            have ne_k21_k52 : k21 ≠ (kf51 7) := by have := Q21.lt; omega
            replace N_k52 := Nat.le_trans M.size N_k52
            replace d9 := fun k h => Nat.lt_of_lt_of_le (d9 k h) hq.size
            replace Q1 := Q1.mo hq
            replace Q21 := Q21.mo hq
            replace M := M.trans hq
            clear hq hR hne
            refine wl_st 24 (.tmp 7) (.tmp 55) (kf51 6) 0 (nvar (pvk s k * 10 / MM)) [.int .u64 0, .int .u64 0, .int .u64 0, .int .u64 0] (nvli (pvk s k * 10 / MM)) Q51 rfl rfl rfl rfl rfl sz24 rfl rfl rfl ?_
            intro w52 hS Qn
            replace Q51 := Qn
            clear Qn
            replace Q1 := hS.other _ _ ne_k1_k51 Q1
            replace Q21 := hS.other _ _ ne_k21_k51 Q21
            replace Q52 := hS.other _ _ ne_k51_k52.symm Q52
            replace d9 := fun k h => Nat.lt_of_lt_of_le (d9 k h) (Nat.le_of_eq hS.size.symm)
            replace M := hS.mo _ N_k51 M
            clear hS
            refine wl_st 24 (.tmp 8) (.tmp 56) (kf51 7) 0 (nvar (pvk s k * 10)) [.int .u64 0, .int .u64 0, .int .u64 0, .int .u64 0] (nvli (pvk s k * 10)) Q52 rfl rfl rfl rfl rfl sz24 rfl rfl rfl ?_
            intro w53 hS Qn
            replace Q52 := Qn
            clear Qn
            replace Q1 := hS.other _ _ ne_k1_k52 Q1
            replace Q21 := hS.other _ _ ne_k21_k52 Q21
            replace Q51 := hS.other _ _ ne_k51_k52 Q51
            replace d9 := fun k h => Nat.lt_of_lt_of_le (d9 k h) (Nat.le_of_eq hS.size.symm)
            replace M := hS.mo _ N_k52 M
            clear hS
            refine w_nil ?_
            refine xn_then ?_
            refine w_seq ?_
            refine w_any 12 [.inl (nv (pvk s k * 10)), .inl (.string s), .inl (.int .i64 ((k : Int))), .inl (.int .u8 (s[k].toNat : Int)), .inl (.int .u8 ((s[k].toNat : Int) - 48)), .inl (.int .u64 ((s[k].toNat : Int) - 48)), .inl (nv (((s[k].toNat : Int) - 48))), .inl (.tuple #[nv (Z), .bool false]), .inl (.tuple #[nv (Z), .bool false]), .inl (nv (Z)), .inl (.bool false), .inr [.int .u64 0, .int .u64 0, .int .u64 0, .int .u64 0]] [10] (by kernel_rfl) (by kernel_rfl) (by kernel_rfl) (by kernel_rfl) rfl (by kernel_rfl) (by kernel_rfl) (late_cons ⟨_, _, rfl, rfl, fun _ _ _ _ h => h, fun f hd => ⟨rfl, la_un (fun v => Instr.extract v 1) (.tmp 57) (.tuple #[nv (Z), .bool false]) (.bool false) (fun _ => rfl) (hd 8 rfl _ rfl) (fun w => by kernel_rfl)⟩⟩ late_nil) ?_ ?_ ?_
            · exact Ds.one 11 (fun q hq => by rcases q with _ | _ | _ | _ | _ | _ | _ | _ | _ | _ | _ | _ | q <;> first | rfl | cases hq) d9
            · refine ea_cons ?_ (ea_cons ?_ (ea_cons ?_ (ea_cons ?_ (ea_cons ?_ (ea_cons ?_ (ea_cons ?_ (ea_cons ?_ (ea_cons ?_ (ea_cons ?_ (ea_cons ?_ (ea_cons ?_ (ea_nil))))))))))))
              · exact og_eq (nv (pvk s k * 10)) rfl (fun f wf hq hd K hK => have Q52 := Q52.mo hq; go_run rfl (wo_load 24 (.tmp 8) (pt (kf51 7) 0) (nv (pvk s k * 10)) rfl rfl (run_row Q52 24 0 4 (nvli (pvk s k * 10)) rfl Try.underlying24 rfl sz24) (hK _ (Mo.refl _))))
              · exact og_eq (.string s) rfl (fun f wf hq hd K hK => go_run rfl (wo_mv (.tmp 0) (.string s) (fun _ => rfl) e0 (hK _ (Mo.refl _))))
              · exact og_eq (.int .i64 ((k : Int))) rfl (fun f wf hq hd K hK => go_run rfl (wo_mv (.tmp 6) (.int .i64 ((k : Int))) (fun _ => rfl) e6 (hK _ (Mo.refl _))))
              · exact og_eq (.int .u8 (s[k].toNat : Int)) rfl (fun f wf hq hd K hK => go_run rfl (wo_bin (fun x y => Instr.index 9 x y) (.tmp 59) (.tmp 60) (.string s) (.int .i64 ((k : Int))) (.int .u8 (s[k].toNat : Int)) (fun _ => rfl) (hd 1 rfl) (hd 2 rfl) (idx_s s k hlt _) (hK _ (Mo.refl _))))
              · exact og_eq (.int .u8 ((s[k].toNat : Int) - 48)) rfl (fun f wf hq hd K hK => go_run rfl (wo_bin (fun x y => do eqGuard .sub 5 (.tmp 61) (.const (.int .u8 (48))) x y; binOp .sub 5 x y) (.tmp 61) (.const (.int .u8 (48))) (.int .u8 (s[k].toNat : Int)) (.int .u8 (48)) (.int .u8 ((s[k].toNat : Int) - 48)) (fun _ => rfl) (hd 3 rfl) rfl (subu8_run hc.1 hc.2 _ _ _) (hK _ (Mo.refl _))))
              · exact og_eq (.int .u64 ((s[k].toNat : Int) - 48)) rfl (fun f wf hq hd K hK => go_run rfl (wo_un (fun v => convert 5 22 v) (.tmp 62) (.int .u8 ((s[k].toNat : Int) - 48)) (.int .u64 ((s[k].toNat : Int) - 48)) (fun _ => rfl) (hd 4 rfl) (cv8_run (by omega) (by omega) _) (hK _ (Mo.refl _))))
              · exact og_eq (nv (((s[k].toNat : Int) - 48))) rfl (fun f wf hq hd K hK => go_run rfl (wo_call 69 [(.tmp 63)] _ [.int .u64 ((s[k].toNat : Int) - 48)] (nv (((s[k].toNat : Int) - 48))) rfl (li1 (hd 5 rfl)) (fun _ _ => by kernel_rfl) (from34_any ((s[k].toNat : Int) - 48) _ ⟨by omega, by omega⟩) hK))
              · exact og_eq (.tuple #[nv (Z), .bool false]) rfl (fun f wf hq hd K hK => go_run rfl (wo_call 64 [(.tmp 58), (.tmp 64)] _ [nv (pvk s k * 10), nv (((s[k].toNat : Int) - 48))] (.tuple #[nv (Z), .bool false]) rfl (li2 (hd 0 rfl) (hd 6 rfl)) (fun _ _ => by kernel_rfl) (hsum _) hK))
              · exact og_eq (.tuple #[nv (Z), .bool false]) rfl (fun f wf hq hd K hK => go_run rfl (wo_mv (.tmp 65) (.tuple #[nv (Z), .bool false]) (fun _ => rfl) (hd 7 rfl) (hK _ (Mo.refl _))))
              · exact og_eq (nv (Z)) rfl (fun f wf hq hd K hK => go_run rfl (wo_un (fun v => Instr.extract v 0) (.tmp 57) (.tuple #[nv (Z), .bool false]) (nv (Z)) (fun _ => rfl) (hd 8 rfl) (by kernel_rfl) (hK _ (Mo.refl _))))
              · exact og_eq (.bool false) rfl (fun f wf hq hd K hK => go_run rfl (wo_un (fun v => Instr.extract v 1) (.tmp 57) (.tuple #[nv (Z), .bool false]) (.bool false) (fun _ => rfl) (hd 8 rfl) (by kernel_rfl) (hK _ (Mo.refl _))))
              · exact og_new [.int .u64 0, .int .u64 0, .int .u64 0, .int .u64 0] rfl (fun f wf hq hd K hK => go_run rfl (wo_alloc 24 #[.int .u64 0, .int .u64 0, .int .u64 0, .int .u64 0] rfl (fun _ => by kernel_rfl) hK))
            intro kf54 w54 hq hR hne
            obtain ⟨N_k53, Q53⟩ := hR 11 _ rfl rfl
            have ne_k1_k53 : k1 ≠ (kf54 11) := by have := Q1.lt; omega
            have ne_k21_k53 : k21 ≠ (kf54 11) := by have := Q21.lt; omega
            have ne_k51_k53 : (kf51 6) ≠ (kf54 11) := by have := Q51.lt; omega
            have ne_k52_k53 : (kf51 7) ≠ (kf54 11) := by have := Q52.lt; omega
            replace N_k53 := Nat.le_trans M.size N_k53
            replace d9 := fun k h => Nat.lt_of_lt_of_le (d9 k h) hq.size
            replace Q1 := Q1.mo hq
            replace Q21 := Q21.mo hq
            replace Q51 := Q51.mo hq
            replace Q52 := Q52.mo hq
            replace M := M.trans hq
            clear hq hR hne
            refine wl_st 24 (.tmp 9) (.tmp 66) (kf54 11) 0 (nvar (Z)) [.int .u64 0, .int .u64 0, .int .u64 0, .int .u64 0] (nvli (Z)) Q53 rfl rfl rfl rfl rfl sz24 rfl rfl rfl ?_
            intro w55 hS Qn
            replace Q53 := Qn
            clear Qn
            replace Q1 := hS.other _ _ ne_k1_k53 Q1
            replace Q21 := hS.other _ _ ne_k21_k53 Q21
            replace Q51 := hS.other _ _ ne_k51_k53 Q51
            replace Q52 := hS.other _ _ ne_k52_k53 Q52
            replace d9 := fun k h => Nat.lt_of_lt_of_le (d9 k h) (Nat.le_of_eq hS.size.symm)
            replace M := hS.mo _ N_k53 M
            clear hS
            refine wl_mv (.tmp 67) (.bool false) (fun _ => rfl) rfl rfl ?_
            refine w_nil ?_
            refine xn_then ?_
            refine w_seq ?_
            refine w_seq ?_
            refine w_reg ?_
            refine wl_load 24 (.tmp 7) (pt (kf51 6) 0) (nv (pvk s k * 10 / MM)) rfl rfl (run_row Q51 24 0 4 (nvli (pvk s k * 10 / MM)) rfl Try.underlying24 rfl sz24) rfl ?_
            refine wl_build 24 [] [] (.agg #[.int .u64 0, .int .u64 0, .int .u64 0, .int .u64 0]) rfl rfl (by kernel_rfl) rfl ?_
            refine wl_bin (fun x y => do eqGuard .neq 24 (.tmp 68) (.tmp 69) x y; binOp .neq 24 x y) (.tmp 68) (.tmp 69) (nv (pvk s k * 10 / MM)) (.agg #[.int .u64 0, .int .u64 0, .int .u64 0, .int .u64 0]) (.bool false) (fun _ => rfl) rfl rfl (nen_run (r := true) hz _ _ _) rfl ?_
            refine wl_mv (.tmp 70) (.bool false) (fun _ => rfl) rfl rfl ?_
            refine wl_mv (.tmp 10) (.bool false) (fun _ => rfl) rfl rfl ?_
            refine wl_pick (.tmp 71) (.const (.bool true)) (.tmp 72) false (.bool false) (fun _ => rfl) rfl rfl rfl ?_
            refine w_nil ?_
            refine xn_then ?_
            refine w_condF rfl ?_
            refine w_skip ?_
            refine xn_then ?_
            refine w_reg ?_
            refine wl_load 24 (.tmp 9) (pt (kf54 11) 0) (nv (Z)) rfl rfl (run_row Q53 24 0 4 (nvli (Z)) rfl Try.underlying24 rfl sz24) rfl ?_
            refine wl_st 24 (.tmp 5) (.tmp 75) k21 0 (nvar (Z)) (nvli (pvk s k)) (nvli (Z)) Q21 rfl rfl e5 rfl rfl sz24 rfl rfl rfl ?_
            intro w56 hS Qn
            replace Q21 := Qn
            clear Qn
            replace Q1 := hS.other _ _ ne_k1_k21 Q1
            replace Q51 := hS.other _ _ ne_k21_k51.symm Q51
            replace Q52 := hS.other _ _ ne_k21_k52.symm Q52
            replace Q53 := hS.other _ _ ne_k21_k53.symm Q53
            replace d9 := fun k h => Nat.lt_of_lt_of_le (d9 k h) (Nat.le_of_eq hS.size.symm)
            replace M := hS.mo _ N_k21 M
            clear hS
            refine w_nil ?_
            refine xn_blk ?_
            refine xn_then ?_
            refine w_reg ?_
            refine wl_mv (.tmp 6) (.int .i64 ((k : Int))) (fun _ => rfl) e6 rfl ?_
            refine wl_bin (fun x y => do eqGuard .add 3 (.tmp 49) (.const (.int .i64 (1))) x y; binOp .add 3 x y) (.tmp 49) (.const (.int .i64 (1))) (.int .i64 ((k : Int))) (.int .i64 (1)) (.int .i64 (((k + 1 : Nat) : Int))) (fun _ => rfl) rfl rfl (add1_run (by unfold maxLen at hs; omega) _ _ _) rfl ?_
            refine wl_mv (.tmp 50) (.int .i64 (((k + 1 : Nat) : Int))) (fun _ => rfl) rfl rfl ?_
            refine w_nil ?_
            exact xn_loop (s.size - (k + 1)) (by omega) ⟨k + 1, by omega, e0, rfl, e2, e5, Q1, by rw [pvk_succ s k hlt, ← hZ]; exact Q21, by rw [pvk_succ s k hlt]; exact hsm, M, (fun k h => by have e : pt (kf51 6) 0 = pt k 0 := h; rw [← pt_inj e]; exact Q51.lt), (fun k h => by have e : pt (kf51 7) 0 = pt k 0 := h; rw [← pt_inj e]; exact Q52.lt), (fun k h h2 => by have e : pt (kf51 6) 0 = pt k 0 := h; have e2 : pt (kf51 7) 0 = pt k 0 := h2; exact ne_k51_k52 (pt_inj (e.trans e2.symm))), (fun k h => by have e : pt (kf54 11) 0 = pt k 0 := h; rw [← pt_inj e]; exact Q53.lt)⟩
          · obtain ⟨Z, hsum⟩ := rsum_ov (pvk s k * 10) ((s[k].toNat : Int) - 48) (by omega) (by omega) (by omega) hhi hsm
            have hbig : ¬ pvk s k * 10 + ((s[k].toNat : Int) - 48) < MM := hsm
            refine w_seq ?_
            refine w_seq ?_
            refine w_reg ?_
            refine wl_mv (.tmp 6) (.int .i64 ((k : Int))) (fun _ => rfl) e6 rfl ?_
            refine wl_mv (.tmp 0) (.string s) (fun _ => rfl) e0 rfl ?_
            refine wl_val (.int .i64 ((s.size : Int))) (len_run _ _ s rfl _ _ _ _ _ _) rfl ?_
            refine wl_bin (fun x y => do eqGuard .lss 3 (.tmp 45) (.tmp 47) x y; binOp .lss 3 x y) (.tmp 45) (.tmp 47) (.int .i64 ((k : Int))) (.int .i64 ((s.size : Int))) (.bool true) (fun _ => rfl) rfl rfl (lt3_run hl _ _ _) rfl ?_
            refine w_nil ?_
            refine xn_then ?_
            refine w_condT rfl ?_
            refine w_skip ?_
            refine xn_then ?_
            refine w_seq ?_
            refine w_block ?_
            refine w_seq ?_
            refine w_any 8 [.inl (nv (pvk s k)), .inl (nv (10)), .inl (.tuple #[nv (pvk s k * 10 / MM), nv (pvk s k * 10)]), .inl (.tuple #[nv (pvk s k * 10 / MM), nv (pvk s k * 10)]), .inl (nv (pvk s k * 10 / MM)), .inl (nv (pvk s k * 10)), .inr [.int .u64 0, .int .u64 0, .int .u64 0, .int .u64 0], .inr [.int .u64 0, .int .u64 0, .int .u64 0, .int .u64 0]] [5] (by kernel_rfl) (by kernel_rfl) (by kernel_rfl) (by kernel_rfl) rfl (by kernel_rfl) (by kernel_rfl) (late_cons ⟨_, _, rfl, rfl, fun _ _ _ _ h => h, fun f hd => ⟨rfl, la_un (fun v => Instr.extract v 1) (.tmp 51) (.tuple #[nv (pvk s k * 10 / MM), nv (pvk s k * 10)]) (nv (pvk s k * 10)) (fun _ => rfl) (hd 3 rfl _ rfl) (fun w => by kernel_rfl)⟩⟩ late_nil) ?_ ?_ ?_
            · exact Ds.two 6 7 (fun q hq => by rcases q with _ | _ | _ | _ | _ | _ | _ | _ | q <;> first | (left; rfl) | (right; rfl) | cases hq) d7 d8 d78
            · refine ea_cons ?_ (ea_cons ?_ (ea_cons ?_ (ea_cons ?_ (ea_cons ?_ (ea_cons ?_ (ea_cons ?_ (ea_cons ?_ (ea_nil))))))))
              · exact og_eq (nv (pvk s k)) rfl (fun f wf hq hd K hK => have Q21 := Q21.mo hq; go_run rfl (wo_load 24 (.tmp 5) (pt k21 0) (nv (pvk s k)) rfl e5 (run_row Q21 24 0 4 (nvli (pvk s k)) rfl Try.underlying24 rfl sz24) (hK _ (Mo.refl _))))
              · exact og_eq (nv (10)) rfl (fun f wf hq hd K hK => go_run rfl (wo_call 69 [(.const (.int .u64 (10)))] _ [.int .u64 (10)] (nv (10)) rfl rfl (fun _ _ => by kernel_rfl) (from69_n _) hK))
              · exact og_eq (.tuple #[nv (pvk s k * 10 / MM), nv (pvk s k * 10)]) rfl (fun f wf hq hd K hK => go_run rfl (wo_call 16 [(.tmp 52), (.tmp 53)] _ [nv (pvk s k), nv (10)] (.tuple #[nv (pvk s k * 10 / MM), nv (pvk s k * 10)]) rfl (li2 (hd 0 rfl) (hd 1 rfl)) (fun _ _ => by kernel_rfl) (rmul_n (pvk s k) 10 _ hv0 hv (by decide) (by decide)) hK))
              · exact og_eq (.tuple #[nv (pvk s k * 10 / MM), nv (pvk s k * 10)]) rfl (fun f wf hq hd K hK => go_run rfl (wo_mv (.tmp 54) (.tuple #[nv (pvk s k * 10 / MM), nv (pvk s k * 10)]) (fun _ => rfl) (hd 2 rfl) (hK _ (Mo.refl _))))
              · exact og_eq (nv (pvk s k * 10 / MM)) rfl (fun f wf hq hd K hK => go_run rfl (wo_un (fun v => Instr.extract v 0) (.tmp 51) (.tuple #[nv (pvk s k * 10 / MM), nv (pvk s k * 10)]) (nv (pvk s k * 10 / MM)) (fun _ => rfl) (hd 3 rfl) (by kernel_rfl) (hK _ (Mo.refl _))))
              · exact og_eq (nv (pvk s k * 10)) rfl (fun f wf hq hd K hK => go_run rfl (wo_un (fun v => Instr.extract v 1) (.tmp 51) (.tuple #[nv (pvk s k * 10 / MM), nv (pvk s k * 10)]) (nv (pvk s k * 10)) (fun _ => rfl) (hd 3 rfl) (by kernel_rfl) (hK _ (Mo.refl _))))
              · exact og_new [.int .u64 0, .int .u64 0, .int .u64 0, .int .u64 0] rfl (fun f wf hq hd K hK => go_run rfl (wo_alloc 24 #[.int .u64 0, .int .u64 0, .int .u64 0, .int .u64 0] rfl (fun _ => by kernel_rfl) hK))
              · exact og_new [.int .u64 0, .int .u64 0, .int .u64 0, .int .u64 0] rfl (fun f wf hq hd K hK => go_run rfl (wo_alloc 24 #[.int .u64 0, .int .u64 0, .int .u64 0, .int .u64 0] rfl (fun _ => by kernel_rfl) hK))
            intro kf51 w51 hq hR hne
            obtain ⟨N_k51, Q51⟩ := hR 6 _ rfl rfl
            obtain ⟨N_k52, Q52⟩ := hR 7 _ rfl rfl
            have ne_k1_k51 : k1 ≠ (kf51 6) := by have := Q1.lt; omega
            have ne_k21_k51 : k21 ≠ (kf51 6) := by have := Q21.lt; omega
            have ne_k51_k52 := hne 6 7 rfl rfl rfl rfl (by decide)
            replace N_k51 := Nat.le_trans M.size N_k51
            have ne_k1_k52 : k1 ≠ (kf51 7) := by have := Q1.lt; omega
            have ne_k21_k52 : k21 ≠ (kf51 7) := by have := Q21.lt; omega
            replace N_k52 := Nat.le_trans M.size N_k52
            replace d9 := fun k h => Nat.lt_of_lt_of_le (d9 k h) hq.size
            replace Q1 := Q1.mo hq
            replace Q21 := Q21.mo hq
            replace M := M.trans hq
            clear hq hR hne
            refine wl_st 24 (.tmp 7) (.tmp 55) (kf51 6) 0 (nvar (pvk s k * 10 / MM)) [.int .u64 0, .int .u64 0, .int .u64 0, .int .u64 0] (nvli (pvk s k * 10 / MM)) Q51 rfl rfl rfl rfl rfl sz24 rfl rfl rfl ?_
            intro w52 hS Qn
            replace Q51 := Qn
            clear Qn
            replace Q1 := hS.other _ _ ne_k1_k51 Q1
            replace Q21 := hS.other _ _ ne_k21_k51 Q21
            replace Q52 := hS.other _ _ ne_k51_k52.symm Q52
            replace d9 := fun k h => Nat.lt_of_lt_of_le (d9 k h) (Nat.le_of_eq hS.size.symm)
            replace M := hS.mo _ N_k51 M
            clear hS
            refine wl_st 24 (.tmp 8) (.tmp 56) (kf51 7) 0 (nvar (pvk s k * 10)) [.int .u64 0, .int .u64 0, .int .u64 0, .int .u64 0] (nvli (pvk s k * 10)) Q52 rfl rfl rfl rfl rfl sz24 rfl rfl rfl ?_
            intro w53 hS Qn
            replace Q52 := Qn
            clear Qn
            replace Q1 := hS.other _ _ ne_k1_k52 Q1
            replace Q21 := hS.other _ _ ne_k21_k52 Q21
            replace Q51 := hS.other _ _ ne_k51_k52 Q51
            replace d9 := fun k h => Nat.lt_of_lt_of_le (d9 k h) (Nat.le_of_eq hS.size.symm)
            replace M := hS.mo _ N_k52 M
            clear hS
            refine w_nil ?_
            refine xn_then ?_
            refine w_seq ?_
            refine w_any 12 [.inl (nv (pvk s k * 10)), .inl (.string s), .inl (.int .i64 ((k : Int))), .inl (.int .u8 (s[k].toNat : Int)), .inl (.int .u8 ((s[k].toNat : Int) - 48)), .inl (.int .u64 ((s[k].toNat : Int) - 48)), .inl (nv (((s[k].toNat : Int) - 48))), .inl (.tuple #[nv (Z), .bool true]), .inl (.tuple #[nv (Z), .bool true]), .inl (nv (Z)), .inl (.bool true), .inr [.int .u64 0, .int .u64 0, .int .u64 0, .int .u64 0]] [10] (by kernel_rfl) (by kernel_rfl) (by kernel_rfl) (by kernel_rfl) rfl (by kernel_rfl) (by kernel_rfl) (late_cons ⟨_, _, rfl, rfl, fun _ _ _ _ h => h, fun f hd => ⟨rfl, la_un (fun v => Instr.extract v 1) (.tmp 57) (.tuple #[nv (Z), .bool true]) (.bool true) (fun _ => rfl) (hd 8 rfl _ rfl) (fun w => by kernel_rfl)⟩⟩ late_nil) ?_ ?_ ?_
            · exact Ds.one 11 (fun q hq => by rcases q with _ | _ | _ | _ | _ | _ | _ | _ | _ | _ | _ | _ | q <;> first | rfl | cases hq) d9
            · refine ea_cons ?_ (ea_cons ?_ (ea_cons ?_ (ea_cons ?_ (ea_cons ?_ (ea_cons ?_ (ea_cons ?_ (ea_cons ?_ (ea_cons ?_ (ea_cons ?_ (ea_cons ?_ (ea_cons ?_ (ea_nil))))))))))))
              · exact og_eq (nv (pvk s k * 10)) rfl (fun f wf hq hd K hK => have Q52 := Q52.mo hq; go_run rfl (wo_load 24 (.tmp 8) (pt (kf51 7) 0) (nv (pvk s k * 10)) rfl rfl (run_row Q52 24 0 4 (nvli (pvk s k * 10)) rfl Try.underlying24 rfl sz24) (hK _ (Mo.refl _))))
              · exact og_eq (.string s) rfl (fun f wf hq hd K hK => go_run rfl (wo_mv (.tmp 0) (.string s) (fun _ => rfl) e0 (hK _ (Mo.refl _))))
              · exact og_eq (.int .i64 ((k : Int))) rfl (fun f wf hq hd K hK => go_run rfl (wo_mv (.tmp 6) (.int .i64 ((k : Int))) (fun _ => rfl) e6 (hK _ (Mo.refl _))))
              · exact og_eq (.int .u8 (s[k].toNat : Int)) rfl (fun f wf hq hd K hK => go_run rfl (wo_bin (fun x y => Instr.index 9 x y) (.tmp 59) (.tmp 60) (.string s) (.int .i64 ((k : Int))) (.int .u8 (s[k].toNat : Int)) (fun _ => rfl) (hd 1 rfl) (hd 2 rfl) (idx_s s k hlt _) (hK _ (Mo.refl _))))
              · exact og_eq (.int .u8 ((s[k].toNat : Int) - 48)) rfl (fun f wf hq hd K hK => go_run rfl (wo_bin (fun x y => do eqGuard .sub 5 (.tmp 61) (.const (.int .u8 (48))) x y; binOp .sub 5 x y) (.tmp 61) (.const (.int .u8 (48))) (.int .u8 (s[k].toNat : Int)) (.int .u8 (48)) (.int .u8 ((s[k].toNat : Int) - 48)) (fun _ => rfl) (hd 3 rfl) rfl (subu8_run hc.1 hc.2 _ _ _) (hK _ (Mo.refl _))))
              · exact og_eq (.int .u64 ((s[k].toNat : Int) - 48)) rfl (fun f wf hq hd K hK => go_run rfl (wo_un (fun v => convert 5 22 v) (.tmp 62) (.int .u8 ((s[k].toNat : Int) - 48)) (.int .u64 ((s[k].toNat : Int) - 48)) (fun _ => rfl) (hd 4 rfl) (cv8_run (by omega) (by omega) _) (hK _ (Mo.refl _))))
              · exact og_eq (nv (((s[k].toNat : Int) - 48))) rfl (fun f wf hq hd K hK => go_run rfl (wo_call 69 [(.tmp 63)] _ [.int .u64 ((s[k].toNat : Int) - 48)] (nv (((s[k].toNat : Int) - 48))) rfl (li1 (hd 5 rfl)) (fun _ _ => by kernel_rfl) (from34_any ((s[k].toNat : Int) - 48) _ ⟨by omega, by omega⟩) hK))
              · exact og_eq (.tuple #[nv (Z), .bool true]) rfl (fun f wf hq hd K hK => go_run rfl (wo_call 64 [(.tmp 58), (.tmp 64)] _ [nv (pvk s k * 10), nv (((s[k].toNat : Int) - 48))] (.tuple #[nv (Z), .bool true]) rfl (li2 (hd 0 rfl) (hd 6 rfl)) (fun _ _ => by kernel_rfl) (hsum _) hK))
              · exact og_eq (.tuple #[nv (Z), .bool true]) rfl (fun f wf hq hd K hK => go_run rfl (wo_mv (.tmp 65) (.tuple #[nv (Z), .bool true]) (fun _ => rfl) (hd 7 rfl) (hK _ (Mo.refl _))))
              · exact og_eq (nv (Z)) rfl (fun f wf hq hd K hK => go_run rfl (wo_un (fun v => Instr.extract v 0) (.tmp 57) (.tuple #[nv (Z), .bool true]) (nv (Z)) (fun _ => rfl) (hd 8 rfl) (by kernel_rfl) (hK _ (Mo.refl _))))
              · exact og_eq (.bool true) rfl (fun f wf hq hd K hK => go_run rfl (wo_un (fun v => Instr.extract v 1) (.tmp 57) (.tuple #[nv (Z), .bool true]) (.bool true) (fun _ => rfl) (hd 8 rfl) (by kernel_rfl) (hK _ (Mo.refl _))))
              · exact og_new [.int .u64 0, .int .u64 0, .int .u64 0, .int .u64 0] rfl (fun f wf hq hd K hK => go_run rfl (wo_alloc 24 #[.int .u64 0, .int .u64 0, .int .u64 0, .int .u64 0] rfl (fun _ => by kernel_rfl) hK))
            intro kf54 w54 hq hR hne
            obtain ⟨N_k53, Q53⟩ := hR 11 _ rfl rfl
            have ne_k1_k53 : k1 ≠ (kf54 11) := by have := Q1.lt; omega
            have ne_k21_k53 : k21 ≠ (kf54 11) := by have := Q21.lt; omega
            have ne_k51_k53 : (kf51 6) ≠ (kf54 11) := by have := Q51.lt; omega
            have ne_k52_k53 : (kf51 7) ≠ (kf54 11) := by have := Q52.lt; omega
            replace N_k53 := Nat.le_trans M.size N_k53
            replace d9 := fun k h => Nat.lt_of_lt_of_le (d9 k h) hq.size
            replace Q1 := Q1.mo hq
            replace Q21 := Q21.mo hq
            replace Q51 := Q51.mo hq
            replace Q52 := Q52.mo hq
            replace M := M.trans hq
            clear hq hR hne
            refine wl_st 24 (.tmp 9) (.tmp 66) (kf54 11) 0 (nvar (Z)) [.int .u64 0, .int .u64 0, .int .u64 0, .int .u64 0] (nvli (Z)) Q53 rfl rfl rfl rfl rfl sz24 rfl rfl rfl ?_
            intro w55 hS Qn
            replace Q53 := Qn
            clear Qn
            replace Q1 := hS.other _ _ ne_k1_k53 Q1
            replace Q21 := hS.other _ _ ne_k21_k53 Q21
            replace Q51 := hS.other _ _ ne_k51_k53 Q51
            replace Q52 := hS.other _ _ ne_k52_k53 Q52
            replace d9 := fun k h => Nat.lt_of_lt_of_le (d9 k h) (Nat.le_of_eq hS.size.symm)
            replace M := hS.mo _ N_k53 M
            clear hS
            refine wl_mv (.tmp 67) (.bool true) (fun _ => rfl) rfl rfl ?_
            refine w_nil ?_
            refine xn_then ?_
            refine w_seq ?_
            refine w_seq ?_
            refine w_reg ?_
            refine wl_load 24 (.tmp 7) (pt (kf51 6) 0) (nv (pvk s k * 10 / MM)) rfl rfl (run_row Q51 24 0 4 (nvli (pvk s k * 10 / MM)) rfl Try.underlying24 rfl sz24) rfl ?_
            refine wl_build 24 [] [] (.agg #[.int .u64 0, .int .u64 0, .int .u64 0, .int .u64 0]) rfl rfl (by kernel_rfl) rfl ?_
            refine wl_bin (fun x y => do eqGuard .neq 24 (.tmp 68) (.tmp 69) x y; binOp .neq 24 x y) (.tmp 68) (.tmp 69) (nv (pvk s k * 10 / MM)) (.agg #[.int .u64 0, .int .u64 0, .int .u64 0, .int .u64 0]) (.bool false) (fun _ => rfl) rfl rfl (nen_run (r := true) hz _ _ _) rfl ?_
            refine wl_mv (.tmp 70) (.bool false) (fun _ => rfl) rfl rfl ?_
            refine wl_mv (.tmp 10) (.bool true) (fun _ => rfl) rfl rfl ?_
            refine wl_pick (.tmp 71) (.const (.bool true)) (.tmp 72) false (.bool true) (fun _ => rfl) rfl rfl rfl ?_
            refine w_nil ?_
            refine xn_then ?_
            refine w_condT rfl ?_
            refine w_seq ?_
            refine w_reg ?_
            refine wl_build 24 [] [] (.agg #[.int .u64 0, .int .u64 0, .int .u64 0, .int .u64 0]) rfl rfl (by kernel_rfl) rfl ?_
            refine wl_st 24 (.tmp 2) (.tmp 74) k1 0 #[.int .u64 0, .int .u64 0, .int .u64 0, .int .u64 0] [.int .u64 0, .int .u64 0, .int .u64 0, .int .u64 0] [.int .u64 0, .int .u64 0, .int .u64 0, .int .u64 0] Q1 rfl rfl e2 rfl rfl sz24 rfl rfl rfl ?_
            intro w56 hS Qn
            replace Q1 := Qn
            clear Qn
            replace Q21 := hS.other _ _ ne_k1_k21.symm Q21
            replace Q51 := hS.other _ _ ne_k1_k51.symm Q51
            replace Q52 := hS.other _ _ ne_k1_k52.symm Q52
            replace Q53 := hS.other _ _ ne_k1_k53.symm Q53
            replace d9 := fun k h => Nat.lt_of_lt_of_le (d9 k h) (Nat.le_of_eq hS.size.symm)
            replace M := hS.mo _ N_k1 M
            clear hS
            refine wl_mv (.const (.int .i64 (7))) (.int .i64 (7)) (fun _ => rfl) rfl rfl ?_
            refine w_nil ?_
            refine xn_then ?_
            refine w_ret ?_
            refine xr_then ?_
            refine xr_blk ?_
            refine xr_then ?_
            refine xr_then ?_
            refine xr_blk ?_
            refine xr_then ?_
            exact w_ret2 _ _ (.agg #[.int .u64 0, .int .u64 0, .int .u64 0, .int .u64 0]) (.int .i64 (7)) rfl ⟨k1, e2, (run_row Q1 24 0 4 [.int .u64 0, .int .u64 0, .int .u64 0, .int .u64 0] rfl Try.underlying24 rfl sz24)⟩ rfl ⟨by rw [resP_over hT hlt hbig], M⟩
        · have hz := hi1z (show MM ≤ pvk s k * 10 by omega) (show pvk s k * 10 < MM * MM by unfold MM at *; omega)
          obtain ⟨Z, o, hsum⟩ := rsum_any (pvk s k * 10) ((s[k].toNat : Int) - 48)
          have hbig : ¬ pvk s k * 10 + ((s[k].toNat : Int) - 48) < MM := by omega
          refine w_seq ?_
          refine w_seq ?_
          refine w_reg ?_
          refine wl_mv (.tmp 6) (.int .i64 ((k : Int))) (fun _ => rfl) e6 rfl ?_
          refine wl_mv (.tmp 0) (.string s) (fun _ => rfl) e0 rfl ?_
          refine wl_val (.int .i64 ((s.size : Int))) (len_run _ _ s rfl _ _ _ _ _ _) rfl ?_
          refine wl_bin (fun x y => do eqGuard .lss 3 (.tmp 45) (.tmp 47) x y; binOp .lss 3 x y) (.tmp 45) (.tmp 47) (.int .i64 ((k : Int))) (.int .i64 ((s.size : Int))) (.bool true) (fun _ => rfl) rfl rfl (lt3_run hl _ _ _) rfl ?_
          refine w_nil ?_
          refine xn_then ?_
          refine w_condT rfl ?_
          refine w_skip ?_
          refine xn_then ?_
          refine w_seq ?_
          refine w_block ?_
          refine w_seq ?_
          refine w_any 8 [.inl (nv (pvk s k)), .inl (nv (10)), .inl (.tuple #[nv (pvk s k * 10 / MM), nv (pvk s k * 10)]), .inl (.tuple #[nv (pvk s k * 10 / MM), nv (pvk s k * 10)]), .inl (nv (pvk s k * 10 / MM)), .inl (nv (pvk s k * 10)), .inr [.int .u64 0, .int .u64 0, .int .u64 0, .int .u64 0], .inr [.int .u64 0, .int .u64 0, .int .u64 0, .int .u64 0]] [5] (by kernel_rfl) (by kernel_rfl) (by kernel_rfl) (by kernel_rfl) rfl (by kernel_rfl) (by kernel_rfl) (late_cons ⟨_, _, rfl, rfl, fun _ _ _ _ h => h, fun f hd => ⟨rfl, la_un (fun v => Instr.extract v 1) (.tmp 51) (.tuple #[nv (pvk s k * 10 / MM), nv (pvk s k * 10)]) (nv (pvk s k * 10)) (fun _ => rfl) (hd 3 rfl _ rfl) (fun w => by kernel_rfl)⟩⟩ late_nil) ?_ ?_ ?_
          · exact Ds.two 6 7 (fun q hq => by rcases q with _ | _ | _ | _ | _ | _ | _ | _ | q <;> first | (left; rfl) | (right; rfl) | cases hq) d7 d8 d78
          · refine ea_cons ?_ (ea_cons ?_ (ea_cons ?_ (ea_cons ?_ (ea_cons ?_ (ea_cons ?_ (ea_cons ?_ (ea_cons ?_ (ea_nil))))))))
            · exact og_eq (nv (pvk s k)) rfl (fun f wf hq hd K hK => have Q21 := Q21.mo hq; go_run rfl (wo_load 24 (.tmp 5) (pt k21 0) (nv (pvk s k)) rfl e5 (run_row Q21 24 0 4 (nvli (pvk s k)) rfl Try.underlying24 rfl sz24) (hK _ (Mo.refl _))))
            · exact og_eq (nv (10)) rfl (fun f wf hq hd K hK => go_run rfl (wo_call 69 [(.const (.int .u64 (10)))] _ [.int .u64 (10)] (nv (10)) rfl rfl (fun _ _ => by kernel_rfl) (from69_n _) hK))
            · exact og_eq (.tuple #[nv (pvk s k * 10 / MM), nv (pvk s k * 10)]) rfl (fun f wf hq hd K hK => go_run rfl (wo_call 16 [(.tmp 52), (.tmp 53)] _ [nv (pvk s k), nv (10)] (.tuple #[nv (pvk s k * 10 / MM), nv (pvk s k * 10)]) rfl (li2 (hd 0 rfl) (hd 1 rfl)) (fun _ _ => by kernel_rfl) (rmul_n (pvk s k) 10 _ hv0 hv (by decide) (by decide)) hK))
            · exact og_eq (.tuple #[nv (pvk s k * 10 / MM), nv (pvk s k * 10)]) rfl (fun f wf hq hd K hK => go_run rfl (wo_mv (.tmp 54) (.tuple #[nv (pvk s k * 10 / MM), nv (pvk s k * 10)]) (fun _ => rfl) (hd 2 rfl) (hK _ (Mo.refl _))))
            · exact og_eq (nv (pvk s k * 10 / MM)) rfl (fun f wf hq hd K hK => go_run rfl (wo_un (fun v => Instr.extract v 0) (.tmp 51) (.tuple #[nv (pvk s k * 10 / MM), nv (pvk s k * 10)]) (nv (pvk s k * 10 / MM)) (fun _ => rfl) (hd 3 rfl) (by kernel_rfl) (hK _ (Mo.refl _))))
            · exact og_eq (nv (pvk s k * 10)) rfl (fun f wf hq hd K hK => go_run rfl (wo_un (fun v => Instr.extract v 1) (.tmp 51) (.tuple #[nv (pvk s k * 10 / MM), nv (pvk s k * 10)]) (nv (pvk s k * 10)) (fun _ => rfl) (hd 3 rfl) (by kernel_rfl) (hK _ (Mo.refl _))))
            · exact og_new [.int .u64 0, .int .u64 0, .int .u64 0, .int .u64 0] rfl (fun f wf hq hd K hK => go_run rfl (wo_alloc 24 #[.int .u64 0, .int .u64 0, .int .u64 0, .int .u64 0] rfl (fun _ => by kernel_rfl) hK))
            · exact og_new [.int .u64 0, .int .u64 0, .int .u64 0, .int .u64 0] rfl (fun f wf hq hd K hK => go_run rfl (wo_alloc 24 #[.int .u64 0, .int .u64 0, .int .u64 0, .int .u64 0] rfl (fun _ => by kernel_rfl) hK))
          intro kf51 w51 hq hR hne
          obtain ⟨N_k51, Q51⟩ := hR 6 _ rfl rfl
          obtain ⟨N_k52, Q52⟩ := hR 7 _ rfl rfl
          have ne_k1_k51 : k1 ≠ (kf51 6) := by have := Q1.lt; omega
          have ne_k21_k51 : k21 ≠ (kf51 6) := by have := Q21.lt; omega
          have ne_k51_k52 := hne 6 7 rfl rfl rfl rfl (by decide)
          replace N_k51 := Nat.le_trans M.size N_k51
          have ne_k1_k52 : k1 ≠ (kf51 7) := by have := Q1.lt; omega
          have ne_k21_k52 : k21 ≠ (kf51 7) := by have := Q21.lt; omega
          replace N_k52 := Nat.le_trans M.size N_k52
          replace d9 := fun k h => Nat.lt_of_lt_of_le (d9 k h) hq.size
          replace Q1 := Q1.mo hq
          replace Q21 := Q21.mo hq
          replace M := M.trans hq
          clear hq hR hne
          refine wl_st 24 (.tmp 7) (.tmp 55) (kf51 6) 0 (nvar (pvk s k * 10 / MM)) [.int .u64 0, .int .u64 0, .int .u64 0, .int .u64 0] (nvli (pvk s k * 10 / MM)) Q51 rfl rfl rfl rfl rfl sz24 rfl rfl rfl ?_
          intro w52 hS Qn
          replace Q51 := Qn
          clear Qn
          replace Q1 := hS.other _ _ ne_k1_k51 Q1
          replace Q21 := hS.other _ _ ne_k21_k51 Q21
          replace Q52 := hS.other _ _ ne_k51_k52.symm Q52
          replace d9 := fun k h => Nat.lt_of_lt_of_le (d9 k h) (Nat.le_of_eq hS.size.symm)
          replace M := hS.mo _ N_k51 M
          clear hS
          refine wl_st 24 (.tmp 8) (.tmp 56) (kf51 7) 0 (nvar (pvk s k * 10)) [.int .u64 0, .int .u64 0, .int .u64 0, .int .u64 0] (nvli (pvk s k * 10)) Q52 rfl rfl rfl rfl rfl sz24 rfl rfl rfl ?_
          intro w53 hS Qn
          replace Q52 := Qn
          clear Qn
          replace Q1 := hS.other _ _ ne_k1_k52 Q1
          replace Q21 := hS.other _ _ ne_k21_k52 Q21
          replace Q51 := hS.other _ _ ne_k51_k52 Q51
          replace d9 := fun k h => Nat.lt_of_lt_of_le (d9 k h) (Nat.le_of_eq hS.size.symm)
          replace M := hS.mo _ N_k52 M
          clear hS
          refine w_nil ?_
          refine xn_then ?_
          refine w_seq ?_
          refine w_any 12 [.inl (nv (pvk s k * 10)), .inl (.string s), .inl (.int .i64 ((k : Int))), .inl (.int .u8 (s[k].toNat : Int)), .inl (.int .u8 ((s[k].toNat : Int) - 48)), .inl (.int .u64 ((s[k].toNat : Int) - 48)), .inl (nv (((s[k].toNat : Int) - 48))), .inl (.tuple #[nv (Z), .bool (o)]), .inl (.tuple #[nv (Z), .bool (o)]), .inl (nv (Z)), .inl (.bool (o)), .inr [.int .u64 0, .int .u64 0, .int .u64 0, .int .u64 0]] [10] (by kernel_rfl) (by kernel_rfl) (by kernel_rfl) (by kernel_rfl) rfl (by kernel_rfl) (by kernel_rfl) (late_cons ⟨_, _, rfl, rfl, fun _ _ _ _ h => h, fun f hd => ⟨rfl, la_un (fun v => Instr.extract v 1) (.tmp 57) (.tuple #[nv (Z), .bool (o)]) (.bool (o)) (fun _ => rfl) (hd 8 rfl _ rfl) (fun w => by kernel_rfl)⟩⟩ late_nil) ?_ ?_ ?_
          · exact Ds.one 11 (fun q hq => by rcases q with _ | _ | _ | _ | _ | _ | _ | _ | _ | _ | _ | _ | q <;> first | rfl | cases hq) d9
          · refine ea_cons ?_ (ea_cons ?_ (ea_cons ?_ (ea_cons ?_ (ea_cons ?_ (ea_cons ?_ (ea_cons ?_ (ea_cons ?_ (ea_cons ?_ (ea_cons ?_ (ea_cons ?_ (ea_cons ?_ (ea_nil))))))))))))
            · exact og_eq (nv (pvk s k * 10)) rfl (fun f wf hq hd K hK => have Q52 := Q52.mo hq; go_run rfl (wo_load 24 (.tmp 8) (pt (kf51 7) 0) (nv (pvk s k * 10)) rfl rfl (run_row Q52 24 0 4 (nvli (pvk s k * 10)) rfl Try.underlying24 rfl sz24) (hK _ (Mo.refl _))))
            · exact og_eq (.string s) rfl (fun f wf hq hd K hK => go_run rfl (wo_mv (.tmp 0) (.string s) (fun _ => rfl) e0 (hK _ (Mo.refl _))))
            · exact og_eq (.int .i64 ((k : Int))) rfl (fun f wf hq hd K hK => go_run rfl (wo_mv (.tmp 6) (.int .i64 ((k : Int))) (fun _ => rfl) e6 (hK _ (Mo.refl _))))
            · exact og_eq (.int .u8 (s[k].toNat : Int)) rfl (fun f wf hq hd K hK => go_run rfl (wo_bin (fun x y => Instr.index 9 x y) (.tmp 59) (.tmp 60) (.string s) (.int .i64 ((k : Int))) (.int .u8 (s[k].toNat : Int)) (fun _ => rfl) (hd 1 rfl) (hd 2 rfl) (idx_s s k hlt _) (hK _ (Mo.refl _))))
            · exact og_eq (.int .u8 ((s[k].toNat : Int) - 48)) rfl (fun f wf hq hd K hK => go_run rfl (wo_bin (fun x y => do eqGuard .sub 5 (.tmp 61) (.const (.int .u8 (48))) x y; binOp .sub 5 x y) (.tmp 61) (.const (.int .u8 (48))) (.int .u8 (s[k].toNat : Int)) (.int .u8 (48)) (.int .u8 ((s[k].toNat : Int) - 48)) (fun _ => rfl) (hd 3 rfl) rfl (subu8_run hc.1 hc.2 _ _ _) (hK _ (Mo.refl _))))
            · exact og_eq (.int .u64 ((s[k].toNat : Int) - 48)) rfl (fun f wf hq hd K hK => go_run rfl (wo_un (fun v => convert 5 22 v) (.tmp 62) (.int .u8 ((s[k].toNat : Int) - 48)) (.int .u64 ((s[k].toNat : Int) - 48)) (fun _ => rfl) (hd 4 rfl) (cv8_run (by omega) (by omega) _) (hK _ (Mo.refl _))))
            · exact og_eq (nv (((s[k].toNat : Int) - 48))) rfl (fun f wf hq hd K hK => go_run rfl (wo_call 69 [(.tmp 63)] _ [.int .u64 ((s[k].toNat : Int) - 48)] (nv (((s[k].toNat : Int) - 48))) rfl (li1 (hd 5 rfl)) (fun _ _ => by kernel_rfl) (from34_any ((s[k].toNat : Int) - 48) _ ⟨by omega, by omega⟩) hK))
            · exact og_eq (.tuple #[nv (Z), .bool (o)]) rfl (fun f wf hq hd K hK => go_run rfl (wo_call 64 [(.tmp 58), (.tmp 64)] _ [nv (pvk s k * 10), nv (((s[k].toNat : Int) - 48))] (.tuple #[nv (Z), .bool (o)]) rfl (li2 (hd 0 rfl) (hd 6 rfl)) (fun _ _ => by kernel_rfl) (hsum _) hK))
            · exact og_eq (.tuple #[nv (Z), .bool (o)]) rfl (fun f wf hq hd K hK => go_run rfl (wo_mv (.tmp 65) (.tuple #[nv (Z), .bool (o)]) (fun _ => rfl) (hd 7 rfl) (hK _ (Mo.refl _))))
            · exact og_eq (nv (Z)) rfl (fun f wf hq hd K hK => go_run rfl (wo_un (fun v => Instr.extract v 0) (.tmp 57) (.tuple #[nv (Z), .bool (o)]) (nv (Z)) (fun _ => rfl) (hd 8 rfl) (by kernel_rfl) (hK _ (Mo.refl _))))
            · exact og_eq (.bool (o)) rfl (fun f wf hq hd K hK => go_run rfl (wo_un (fun v => Instr.extract v 1) (.tmp 57) (.tuple #[nv (Z), .bool (o)]) (.bool (o)) (fun _ => rfl) (hd 8 rfl) (by kernel_rfl) (hK _ (Mo.refl _))))
            · exact og_new [.int .u64 0, .int .u64 0, .int .u64 0, .int .u64 0] rfl (fun f wf hq hd K hK => go_run rfl (wo_alloc 24 #[.int .u64 0, .int .u64 0, .int .u64 0, .int .u64 0] rfl (fun _ => by kernel_rfl) hK))
          intro kf54 w54 hq hR hne
          obtain ⟨N_k53, Q53⟩ := hR 11 _ rfl rfl
          have ne_k1_k53 : k1 ≠ (kf54 11) := by have := Q1.lt; omega
          have ne_k21_k53 : k21 ≠ (kf54 11) := by have := Q21.lt; omega
          have ne_k51_k53 : (kf51 6) ≠ (kf54 11) := by have := Q51.lt; omega
          have ne_k52_k53 : (kf51 7) ≠ (kf54 11) := by have := Q52.lt; omega
          replace N_k53 := Nat.le_trans M.size N_k53
          replace d9 := fun k h => Nat.lt_of_lt_of_le (d9 k h) hq.size
          replace Q1 := Q1.mo hq
          replace Q21 := Q21.mo hq
          replace Q51 := Q51.mo hq
          replace Q52 := Q52.mo hq
          replace M := M.trans hq
          clear hq hR hne
          refine wl_st 24 (.tmp 9) (.tmp 66) (kf54 11) 0 (nvar (Z)) [.int .u64 0, .int .u64 0, .int .u64 0, .int .u64 0] (nvli (Z)) Q53 rfl rfl rfl rfl rfl sz24 rfl rfl rfl ?_
          intro w55 hS Qn
          replace Q53 := Qn
          clear Qn
          replace Q1 := hS.other _ _ ne_k1_k53 Q1
          replace Q21 := hS.other _ _ ne_k21_k53 Q21
          replace Q51 := hS.other _ _ ne_k51_k53 Q51
          replace Q52 := hS.other _ _ ne_k52_k53 Q52
          replace d9 := fun k h => Nat.lt_of_lt_of_le (d9 k h) (Nat.le_of_eq hS.size.symm)
          replace M := hS.mo _ N_k53 M
          clear hS
          refine wl_mv (.tmp 67) (.bool (o)) (fun _ => rfl) rfl rfl ?_
          refine w_nil ?_
          refine xn_then ?_
          refine w_seq ?_
          refine w_seq ?_
          refine w_reg ?_
          refine wl_load 24 (.tmp 7) (pt (kf51 6) 0) (nv (pvk s k * 10 / MM)) rfl rfl (run_row Q51 24 0 4 (nvli (pvk s k * 10 / MM)) rfl Try.underlying24 rfl sz24) rfl ?_
          refine wl_build 24 [] [] (.agg #[.int .u64 0, .int .u64 0, .int .u64 0, .int .u64 0]) rfl rfl (by kernel_rfl) rfl ?_
          refine wl_bin (fun x y => do eqGuard .neq 24 (.tmp 68) (.tmp 69) x y; binOp .neq 24 x y) (.tmp 68) (.tmp 69) (nv (pvk s k * 10 / MM)) (.agg #[.int .u64 0, .int .u64 0, .int .u64 0, .int .u64 0]) (.bool true) (fun _ => rfl) rfl rfl (nen_run (r := false) hz _ _ _) rfl ?_
          refine wl_mv (.tmp 70) (.bool true) (fun _ => rfl) rfl rfl ?_
          refine wl_skip rfl ?_
          refine wl_pick (.tmp 71) (.const (.bool true)) (.tmp 72) true (.bool true) (fun _ => rfl) rfl rfl rfl ?_
          refine w_nil ?_
          refine xn_then ?_
          refine w_condT rfl ?_
          refine w_seq ?_
          refine w_reg ?_
          refine wl_build 24 [] [] (.agg #[.int .u64 0, .int .u64 0, .int .u64 0, .int .u64 0]) rfl rfl (by kernel_rfl) rfl ?_
          refine wl_st 24 (.tmp 2) (.tmp 74) k1 0 #[.int .u64 0, .int .u64 0, .int .u64 0, .int .u64 0] [.int .u64 0, .int .u64 0, .int .u64 0, .int .u64 0] [.int .u64 0, .int .u64 0, .int .u64 0, .int .u64 0] Q1 rfl rfl e2 rfl rfl sz24 rfl rfl rfl ?_
          intro w56 hS Qn
          replace Q1 := Qn
          clear Qn
          replace Q21 := hS.other _ _ ne_k1_k21.symm Q21
          replace Q51 := hS.other _ _ ne_k1_k51.symm Q51
          replace Q52 := hS.other _ _ ne_k1_k52.symm Q52
          replace Q53 := hS.other _ _ ne_k1_k53.symm Q53
          replace d9 := fun k h => Nat.lt_of_lt_of_le (d9 k h) (Nat.le_of_eq hS.size.symm)
          replace M := hS.mo _ N_k1 M
          clear hS
          refine wl_mv (.const (.int .i64 (7))) (.int .i64 (7)) (fun _ => rfl) rfl rfl ?_
          refine w_nil ?_
          refine xn_then ?_
          refine w_ret ?_
          refine xr_then ?_
          refine xr_blk ?_
          refine xr_then ?_
          refine xr_then ?_
          refine xr_blk ?_
          refine xr_then ?_
          exact w_ret2 _ _ (.agg #[.int .u64 0, .int .u64 0, .int .u64 0, .int .u64 0]) (.int .i64 (7)) rfl ⟨k1, e2, (run_row Q1 24 0 4 [.int .u64 0, .int .u64 0, .int .u64 0, .int .u64 0] rfl Try.underlying24 rfl sz24)⟩ rfl ⟨by rw [resP_over hT hlt hbig], M⟩
      · have hl : decide ((k : Int) < (s.size : Int)) = false := decide_eq_false (by omega)
        refine w_seq ?_
        refine w_seq ?_
        refine w_reg ?_
        refine wl_mv (.tmp 6) (.int .i64 ((k : Int))) (fun _ => rfl) e6 rfl ?_
        refine wl_mv (.tmp 0) (.string s) (fun _ => rfl) e0 rfl ?_
        refine wl_val (.int .i64 ((s.size : Int))) (len_run _ _ s rfl _ _ _ _ _ _) rfl ?_
        refine wl_bin (fun x y => do eqGuard .lss 3 (.tmp 45) (.tmp 47) x y; binOp .lss 3 x y) (.tmp 45) (.tmp 47) (.int .i64 ((k : Int))) (.int .i64 ((s.size : Int))) (.bool false) (fun _ => rfl) rfl rfl (lt3_run hl _ _ _) rfl ?_
        refine w_nil ?_
        refine xn_then ?_
        refine w_condF rfl ?_
        refine w_exit ?_
        refine xx_then ?_
        refine xx_then ?_
        refine xx_blk ?_
        refine xn_then ?_
        refine w_seq ?_
        refine w_reg ?_
        refine wl_load 24 (.tmp 5) (pt k21 0) (nv (pvk s k)) rfl e5 (run_row Q21 24 0 4 (nvli (pvk s k)) rfl Try.underlying24 rfl sz24) rfl ?_
        refine wl_st 24 (.tmp 2) (.tmp 76) k1 0 (nvar (pvk s k)) [.int .u64 0, .int .u64 0, .int .u64 0, .int .u64 0] (nvli (pvk s k)) Q1 rfl rfl e2 rfl rfl sz24 rfl rfl rfl ?_
        intro w51 hS Qn
        replace Q1 := Qn
        clear Qn
        replace Q21 := hS.other _ _ ne_k1_k21.symm Q21
        replace d9 := fun k h => Nat.lt_of_lt_of_le (d9 k h) (Nat.le_of_eq hS.size.symm)
        replace M := hS.mo _ N_k1 M
        clear hS
        refine wl_mv (.const (.int .i64 (0))) (.int .i64 (0)) (fun _ => rfl) rfl rfl ?_
        refine w_nil ?_
        refine xn_then ?_
        refine w_ret ?_
        exact w_ret2 _ _ (nv (pvk s k)) (.int .i64 (0)) rfl ⟨k1, e2, (run_row Q1 24 0 4 (nvli (pvk s k)) rfl Try.underlying24 rfl sz24)⟩ rfl ⟨by rw [resP_ok (pvk_end hk hlt hv), ← pvk_eq hk hlt], M⟩
theorem rparse_n (s : ByteArray) (w : World) [Decidable (isT s)] (hs : s.size ≤ maxLen) : Calls Try.prog 21 #[.string s] w fun e w' => e = .returned (if isT s then resP s else ez 10) ∧ Mo w w' := by
  by_cases hp : 0 < s.size
  · have h0 : s.toList.isEmpty = false := by rw [emp_iff]; exact decide_eq_false (by omega)
    cases hz : ((s[0].toNat : Int) == 48) with
    | false =>
      have hz' : (s[0].toNat : Int) ≠ 48 := by simpa using hz
      exact rparse_a s w hs h0 hp (fun h => hz' h.2) (fun _ => hz') hz
    | true =>
      cases h1 : decide ((s.size : Int) > 1) with
      | false =>
        have := of_decide_eq_false h1
        exact rparse_b s w hs h0 hp (fun h => by omega) (fun h => by omega) hz h1
      | true =>
        rw [if_neg (fun hT : isT s => by obtain ⟨_, h, _⟩ := hT; exact h ⟨by have := of_decide_eq_true h1; omega, by simpa using hz⟩)]
        exact rparse_lead s w h0 hp h1 hz
  · rw [if_neg (fun hT : isT s => by obtain ⟨h, _⟩ := hT; exact hp h)]
    exact rparse_emp s w (by rw [emp_iff]; exact decide_eq_true (by omega))
end Go.Proofs.Ytoiiekmkcpcbgaa
/-
  The document's small quotient: by ten.
-/
namespace Go.Proofs.Ytoiiekmkcpcbgaa
open Go.RowKit
theorem shlA (a : Int) (x y : Operand) (w : World) : (do eqGuard .shl 22 x y (.int .u64 a) (.int .u64 32); binOp .shl 22 (.int .u64 a) (.int .u64 32)).run Try.prog w = .ok (.int .u64 (IntKind.u64.wrap (a * 2 ^ 32))) w := by kernel_rfl
theorem shlB (a : Int) (x y : Operand) (w : World) : (do eqGuard .shl 22 x y (.int .u64 a) (.int .i64 32); binOp .shl 22 (.int .u64 a) (.int .i64 32)).run Try.prog w = .ok (.int .u64 (IntKind.u64.wrap (a * 2 ^ 32))) w := by kernel_rfl
theorem shlC (a : Int) (x y : Operand) (w : World) : (do eqGuard .shl 22 x y (.int .u64 a) (.int .i64 0); binOp .shl 22 (.int .u64 a) (.int .i64 0)).run Try.prog w = .ok (.int .u64 (IntKind.u64.wrap (a * 2 ^ 0))) w := by kernel_rfl
theorem quoA (a : Int) (x y : Operand) (w : World) : (do eqGuard .quo 22 x y (.int .u64 a) (.int .u64 10); binOp .quo 22 (.int .u64 a) (.int .u64 10)).run Try.prog w = .ok (.int .u64 (IntKind.u64.wrap (a.tdiv 10))) w := by kernel_rfl
theorem quo3 (x y : Operand) (w : World) : (do eqGuard .quo 3 x y (.int .i64 7) (.int .i64 2); binOp .quo 3 (.int .i64 7) (.int .i64 2)).run Try.prog w = .ok (.int .i64 3) w := by kernel_rfl
theorem addU (a b : Int) (x y : Operand) (w : World) : (do eqGuard .add 22 x y (.int .u64 a) (.int .u64 b); binOp .add 22 (.int .u64 a) (.int .u64 b)).run Try.prog w = .ok (.int .u64 (IntKind.u64.wrap (a + b))) w := by kernel_rfl
theorem remA (a : Int) (x y : Operand) (w : World) : (do eqGuard .rem 22 x y (.int .u64 a) (.int .u64 10); binOp .rem 22 (.int .u64 a) (.int .u64 10)).run Try.prog w = .ok (.int .u64 (a.tmod 10)) w := by kernel_rfl
theorem cvA (a : Int) (w : World) : (convert 22 5 (.int .u64 a)).run Try.prog w = .ok (.int .u8 (IntKind.u8.wrap a)) w := by kernel_rfl
theorem shlu_run {a c : Int} (h : a * 4294967296 = c) (h0 : 0 ≤ c) (h1 : c < 18446744073709551616) (x y : Operand) (w : World) : (do eqGuard .shl 22 x y (.int .u64 a) (.int .u64 32); binOp .shl 22 (.int .u64 a) (.int .u64 32)).run Try.prog w = .ok (.int .u64 c) w := by
  have e : IntKind.u64.wrap (a * 2 ^ 32) = c := by rw [IntKind.wrap_u64]; omega
  rw [shlA, e]
theorem shli_run {a c : Int} (h : a * 4294967296 = c) (h0 : 0 ≤ c) (h1 : c < 18446744073709551616) (x y : Operand) (w : World) : (do eqGuard .shl 22 x y (.int .u64 a) (.int .i64 32); binOp .shl 22 (.int .u64 a) (.int .i64 32)).run Try.prog w = .ok (.int .u64 c) w := by
  have e : IntKind.u64.wrap (a * 2 ^ 32) = c := by rw [IntKind.wrap_u64]; omega
  rw [shlB, e]
theorem shl0_run {a : Int} (h0 : 0 ≤ a) (h1 : a < 18446744073709551616) (x y : Operand) (w : World) : (do eqGuard .shl 22 x y (.int .u64 a) (.int .i64 0); binOp .shl 22 (.int .u64 a) (.int .i64 0)).run Try.prog w = .ok (.int .u64 a) w := by
  have e : IntKind.u64.wrap (a * 2 ^ 0) = a := by rw [IntKind.wrap_u64]; omega
  rw [shlC, e]
theorem quou_run {a c : Int} (h : a / 10 = c) (h0 : 0 ≤ a) (h1 : a < 18446744073709551616) (x y : Operand) (w : World) : (do eqGuard .quo 22 x y (.int .u64 a) (.int .u64 10); binOp .quo 22 (.int .u64 a) (.int .u64 10)).run Try.prog w = .ok (.int .u64 c) w := by
  have e : IntKind.u64.wrap (a.tdiv 10) = c := by rw [IntKind.wrap_u64, Int.tdiv_eq_ediv_of_nonneg h0]; omega
  rw [quoA, e]
theorem remu_run {a c : Int} (h : a % 10 = c) (h0 : 0 ≤ a) (x y : Operand) (w : World) : (do eqGuard .rem 22 x y (.int .u64 a) (.int .u64 10); binOp .rem 22 (.int .u64 a) (.int .u64 10)).run Try.prog w = .ok (.int .u64 c) w := by
  have e : a.tmod 10 = c := by rw [Int.tmod_eq_emod_of_nonneg h0]; exact h
  rw [remA, e]
theorem addu_run {a b c : Int} (h : a + b = c) (h0 : 0 ≤ c) (h1 : c < 18446744073709551616) (x y : Operand) (w : World) : (do eqGuard .add 22 x y (.int .u64 a) (.int .u64 b); binOp .add 22 (.int .u64 a) (.int .u64 b)).run Try.prog w = .ok (.int .u64 c) w := by
  have e : IntKind.u64.wrap (a + b) = c := by rw [IntKind.wrap_u64]; omega
  rw [addU, e]
theorem sz22b : (Try.prog.info? 22).map (·.size) = some 1 := by kernel_rfl
/-- The quotient's cells, ahead of the round of the digit m - 1. -/
def qc (y : Nat → Int) : Nat → List Value
  | 0 => [.int .u64 (y 1 * 4294967296 + y 0), .int .u64 (y 3 * 4294967296 + y 2), .int .u64 (y 5 * 4294967296 + y 4), .int .u64 (y 7 * 4294967296 + y 6)]
  | 1 => [.int .u64 (y 1 * 4294967296), .int .u64 (y 3 * 4294967296 + y 2), .int .u64 (y 5 * 4294967296 + y 4), .int .u64 (y 7 * 4294967296 + y 6)]
  | 2 => [.int .u64 0, .int .u64 (y 3 * 4294967296 + y 2), .int .u64 (y 5 * 4294967296 + y 4), .int .u64 (y 7 * 4294967296 + y 6)]
  | 3 => [.int .u64 0, .int .u64 (y 3 * 4294967296), .int .u64 (y 5 * 4294967296 + y 4), .int .u64 (y 7 * 4294967296 + y 6)]
  | 4 => [.int .u64 0, .int .u64 0, .int .u64 (y 5 * 4294967296 + y 4), .int .u64 (y 7 * 4294967296 + y 6)]
  | 5 => [.int .u64 0, .int .u64 0, .int .u64 (y 5 * 4294967296), .int .u64 (y 7 * 4294967296 + y 6)]
  | 6 => [.int .u64 0, .int .u64 0, .int .u64 0, .int .u64 (y 7 * 4294967296 + y 6)]
  | 7 => [.int .u64 0, .int .u64 0, .int .u64 0, .int .u64 (y 7 * 4294967296)]
  | _ => [.int .u64 0, .int .u64 0, .int .u64 0, .int .u64 0]
theorem small_w (n : Int) (x y r : Nat → Int) (w : World) (hr8 : r 8 = 0) (hxy : ∀ i, i < 8 → r (i + 1) * 4294967296 + dg n i = x i ∧ x i / 10 = y i ∧ x i % 10 = r i)
    (rb : ∀ i, i ≤ 8 → 0 ≤ r i ∧ r i < 10) (yb : ∀ i, i < 8 → 0 ≤ y i ∧ y i < 4294967296) :
    Calls Try.prog 71 #[nv n, .int .u64 10] w fun e w' => e = .returned (.tuple #[.agg (qc y 0).toArray, .int .u64 (r 0)]) ∧ Mo w w' := by
  refine w_enter 38 Try.func71 Try.ntmps71 rfl rfl ?_
  have M : Mo w w := Mo.refl _
  refine w_seq ?_
  refine w_reg ?_
  refine wl_box 24 (.tmp 0) (nv (n)) ((nvar (n))) rfl rfl (fun _ => by kernel_rfl) rfl ?_
  intro k1 w1 hk hz hq Q1
  have N_k1 : w.heap.size ≤ k1 := by have := M.size; omega
  replace M := M.trans hq
  clear hk hz hq
  refine wl_alloc 24 #[.int .u64 0, .int .u64 0, .int .u64 0, .int .u64 0] rfl (fun _ => by kernel_rfl) rfl ?_
  intro k2 w2 hk hz hq Q2
  have ne_k1_k2 : k1 ≠ k2 := by have := Q1.lt; omega
  have N_k2 : w.heap.size ≤ k2 := by have := M.size; omega
  replace Q1 := Q1.mo hq
  replace M := M.trans hq
  clear hk hz hq
  refine wl_mv (.const (.int .u64 (0))) (.int .u64 (0)) (fun _ => rfl) rfl rfl ?_
  refine w_nil ?_
  refine xn_then ?_
  refine w_seq ?_
  refine w_reg ?_
  refine wl_alloc 24 #[.int .u64 0, .int .u64 0, .int .u64 0, .int .u64 0] rfl (fun _ => by kernel_rfl) rfl ?_
  intro k3 w3 hk hz hq Q3
  have ne_k1_k3 : k1 ≠ k3 := by have := Q1.lt; omega
  have ne_k2_k3 : k2 ≠ k3 := by have := Q2.lt; omega
  have N_k3 : w.heap.size ≤ k3 := by have := M.size; omega
  replace Q1 := Q1.mo hq
  replace Q2 := Q2.mo hq
  replace M := M.trans hq
  clear hk hz hq
  refine w_nil ?_
  refine xn_then ?_
  refine w_seq ?_
  refine w_reg ?_
  refine wl_mv (.const (.int .u64 (0))) (.int .u64 (0)) (fun _ => rfl) rfl rfl ?_
  refine w_nil ?_
  refine xn_then ?_
  refine w_seq ?_
  refine w_seq ?_
  refine w_reg ?_
  refine wl_mv (.const (.int .i64 (7))) (.int .i64 (7)) (fun _ => rfl) rfl rfl ?_
  refine w_nil ?_
  refine xn_then ?_
  refine w_block ?_
  refine w_loop (fun m l w1 => m ≤ 8 ∧ look l 8 = .int .i64 ((m : Int) - 1) ∧ look l 7 = .int .u64 (r m) ∧ look l 1 = .int .u64 10 ∧ look l 2 = pt k1 0 ∧ look l 4 = pt k2 0 ∧ look l 6 = pt k3 0 ∧ At w1 k1 (nvli n) ∧ At w1 k2 [.int .u64 0, .int .u64 0, .int .u64 0, .int .u64 0] ∧ At w1 k3 (qc y m) ∧ Mo w w1) 8 ⟨by decide, rfl, by rw [hr8]; rfl, rfl, rfl, rfl, rfl, Q1, Q2, Q3, M⟩ ?_
  clear M Q1 Q2 Q3
  rintro m l wl ⟨hm, e8, e7, e1, e2, e4, e6, Q1, Q2, Q3, M⟩
  rcases m with _ | _ | _ | _ | _ | _ | _ | _ | _ | m
  · replace e8 : look l 8 = .int .i64 (-1) := by rw [e8]; rfl
    refine w_seq ?_
    refine w_seq ?_
    refine w_reg ?_
    refine wl_mv (.tmp 8) (.int .i64 (-1)) (fun _ => rfl) e8 rfl ?_
    refine wl_bin (fun x y => do eqGuard .geq 3 (.tmp 10) (.const (.int .i64 (0))) x y; binOp .geq 3 x y) (.tmp 10) (.const (.int .i64 (0))) (.int .i64 (-1)) (.int .i64 (0)) (.bool false) (fun _ => rfl) rfl rfl (by kernel_rfl) rfl ?_
    refine w_nil ?_
    refine xn_then ?_
    refine w_condF rfl ?_
    refine w_exit ?_
    refine xx_then ?_
    refine xx_then ?_
    refine xx_blk ?_
    refine xn_then ?_
    refine w_seq ?_
    refine w_reg ?_
    refine wl_load 24 (.tmp 6) (pt k3 0) (.agg #[.int .u64 (y 1 * 4294967296 + y 0), .int .u64 (y 3 * 4294967296 + y 2), .int .u64 (y 5 * 4294967296 + y 4), .int .u64 (y 7 * 4294967296 + y 6)]) rfl e6 (run_row Q3 24 0 4 [.int .u64 (y 1 * 4294967296 + y 0), .int .u64 (y 3 * 4294967296 + y 2), .int .u64 (y 5 * 4294967296 + y 4), .int .u64 (y 7 * 4294967296 + y 6)] rfl Try.underlying24 rfl sz24) rfl ?_
    refine wl_mv (.tmp 7) (.int .u64 (r 0)) (fun _ => rfl) e7 rfl ?_
    refine wl_st 24 (.tmp 4) (.tmp 36) k2 0 #[.int .u64 (y 1 * 4294967296 + y 0), .int .u64 (y 3 * 4294967296 + y 2), .int .u64 (y 5 * 4294967296 + y 4), .int .u64 (y 7 * 4294967296 + y 6)] [.int .u64 0, .int .u64 0, .int .u64 0, .int .u64 0] [.int .u64 (y 1 * 4294967296 + y 0), .int .u64 (y 3 * 4294967296 + y 2), .int .u64 (y 5 * 4294967296 + y 4), .int .u64 (y 7 * 4294967296 + y 6)] Q2 rfl rfl e4 rfl rfl sz24 rfl rfl rfl ?_
    intro w21 hS Qn
    replace Q2 := Qn
    clear Qn
    replace Q1 := hS.other _ _ ne_k1_k2 Q1
    replace Q3 := hS.other _ _ ne_k2_k3.symm Q3
    replace M := hS.mo _ N_k2 M
    clear hS
    refine wl_mv (.tmp 37) (.int .u64 (r 0)) (fun _ => rfl) rfl rfl ?_
    refine w_nil ?_
    refine xn_then ?_
    refine w_ret ?_
    exact w_ret2 _ _ (.agg #[.int .u64 (y 1 * 4294967296 + y 0), .int .u64 (y 3 * 4294967296 + y 2), .int .u64 (y 5 * 4294967296 + y 4), .int .u64 (y 7 * 4294967296 + y 6)]) (.int .u64 (r 0)) rfl ⟨k2, e4, (run_row Q2 24 0 4 [.int .u64 (y 1 * 4294967296 + y 0), .int .u64 (y 3 * 4294967296 + y 2), .int .u64 (y 5 * 4294967296 + y 4), .int .u64 (y 7 * 4294967296 + y 6)] rfl Try.underlying24 rfl sz24)⟩ rfl ⟨rfl, M⟩
  · obtain ⟨hx, hy, hr⟩ := hxy 0 (by decide)
    have hd := dg_bd n 0
    have hb := rb 0 (by decide)
    have hb1 := rb 1 (by decide)
    have hy1 := yb 1 (by decide)
    have hy2 := yb 2 (by decide)
    have hy3 := yb 3 (by decide)
    have hy4 := yb 4 (by decide)
    have hy5 := yb 5 (by decide)
    have hy6 := yb 6 (by decide)
    have hy7 := yb 7 (by decide)
    have hyi := yb 0 (by decide)
    refine w_seq ?_
    refine w_seq ?_
    refine w_reg ?_
    refine wl_mv (.tmp 8) (.int .i64 (0)) (fun _ => rfl) e8 rfl ?_
    refine wl_bin (fun x y => do eqGuard .geq 3 (.tmp 10) (.const (.int .i64 (0))) x y; binOp .geq 3 x y) (.tmp 10) (.const (.int .i64 (0))) (.int .i64 (0)) (.int .i64 (0)) (.bool true) (fun _ => rfl) rfl rfl (by kernel_rfl) rfl ?_
    refine w_nil ?_
    refine xn_then ?_
    refine w_condT rfl ?_
    refine w_skip ?_
    refine xn_then ?_
    refine w_seq ?_
    refine w_block ?_
    refine w_seq ?_
    refine w_reg ?_
    refine wl_mv (.tmp 7) (.int .u64 (r 1)) (fun _ => rfl) e7 rfl ?_
    refine wl_bin (fun x y => do eqGuard .shl 22 (.tmp 14) (.const (.int .u64 (32))) x y; binOp .shl 22 x y) (.tmp 14) (.const (.int .u64 (32))) (.int .u64 (r 1)) (.int .u64 (32)) (.int .u64 (r 1 * 4294967296)) (fun _ => rfl) rfl rfl (shlu_run rfl (by omega) (by omega) _ _ _) rfl ?_
    refine wl_load 24 (.tmp 2) (pt k1 0) (nv (n)) rfl e2 (run_row Q1 24 0 4 (nvli (n)) rfl Try.underlying24 rfl sz24) rfl ?_
    refine wl_mv (.tmp 8) (.int .i64 (0)) (fun _ => rfl) e8 rfl ?_
    refine wl_call 55 [(.tmp 16), (.tmp 17)] _ [nv (n), .int .i64 (0)] (.int .u64 (dg n 0)) rfl rfl (fun _ _ => by kernel_rfl) (half_any n 0 _ (by decide)) rfl ?_
    intro w21 hq
    replace Q1 := Q1.mo hq
    replace Q2 := Q2.mo hq
    replace Q3 := Q3.mo hq
    replace M := M.trans hq
    clear hq
    refine wl_bin (fun x y => do eqGuard .add 22 (.tmp 15) (.tmp 18) x y; binOp .add 22 x y) (.tmp 15) (.tmp 18) (.int .u64 (r 1 * 4294967296)) (.int .u64 (dg n 0)) (.int .u64 (x 0)) (fun _ => rfl) rfl rfl (addu_run hx (by omega) (by omega) _ _ _) rfl ?_
    refine wl_mv (.tmp 19) (.int .u64 (x 0)) (fun _ => rfl) rfl rfl ?_
    refine w_nil ?_
    refine xn_then ?_
    refine w_seq ?_
    refine w_any 13 [.inl (.int .i64 (0)), .inl (.int .i64 (0)), .inl (pt k3 0), .inl (.int .u64 (y 1 * 4294967296)), .inl (.int .u64 (x 0)), .inl (.int .u64 10), .inl (.int .u64 (y 0)), .inl (.int .i64 (0)), .inl (.int .i64 (0)), .inl (.int .i64 (0)), .inl (.int .u64 (y 0)), .inl (.int .u64 (y 1 * 4294967296 + y 0)), .inl (pt k3 0)] [] (by kernel_rfl) (by kernel_rfl) (by kernel_rfl) (by kernel_rfl) rfl (by kernel_rfl) (by kernel_rfl) late_nil ?_ ?_ ?_
    · exact Ds.none rfl
    · refine ea_cons ?_ (ea_cons ?_ (ea_cons ?_ (ea_cons ?_ (ea_cons ?_ (ea_cons ?_ (ea_cons ?_ (ea_cons ?_ (ea_cons ?_ (ea_cons ?_ (ea_cons ?_ (ea_cons ?_ (ea_cons ?_ (ea_nil)))))))))))))
      · exact og_eq (.int .i64 (0)) rfl (fun f wf hq hd K hK => go_run rfl (wo_mv (.tmp 8) (.int .i64 (0)) (fun _ => rfl) e8 (hK _ (Mo.refl _))))
      · exact og_eq (.int .i64 (0)) rfl (fun f wf hq hd K hK => go_run rfl (wo_bin (fun x y => do eqGuard .quo 3 (.tmp 20) (.const (.int .i64 (2))) x y; binOp .quo 3 x y) (.tmp 20) (.const (.int .i64 (2))) (.int .i64 (0)) (.int .i64 (2)) (.int .i64 (0)) (fun _ => rfl) (hd 0 rfl) rfl (by kernel_rfl) (hK _ (Mo.refl _))))
      · exact og_eq (pt k3 0) rfl (fun f wf hq hd K hK => go_run rfl (wo_bin (fun x y => Instr.indexAt 24 x y) (.tmp 6) (.tmp 21) (pt k3 0) (.int .i64 (0)) (pt k3 0) (fun _ => rfl) e6 (hd 1 rfl) (by kernel_rfl) (hK _ (Mo.refl _))))
      · exact og_eq (.int .u64 (y 1 * 4294967296)) rfl (fun f wf hq hd K hK => have Q3 := Q3.mo hq; go_run rfl (wo_load 22 (.tmp 22) (pt k3 0) (.int .u64 (y 1 * 4294967296)) rfl (hd 2 rfl) (run_one Q3 22 0 rfl Try.underlying22 rfl) (hK _ (Mo.refl _))))
      · exact og_eq (.int .u64 (x 0)) rfl (fun f wf hq hd K hK => go_run rfl (wo_mv (.tmp 9) (.int .u64 (x 0)) (fun _ => rfl) rfl (hK _ (Mo.refl _))))
      · exact og_eq (.int .u64 10) rfl (fun f wf hq hd K hK => go_run rfl (wo_mv (.tmp 1) (.int .u64 10) (fun _ => rfl) e1 (hK _ (Mo.refl _))))
      · exact og_eq (.int .u64 (y 0)) rfl (fun f wf hq hd K hK => go_run rfl (wo_bin (fun x y => do eqGuard .quo 22 (.tmp 24) (.tmp 25) x y; binOp .quo 22 x y) (.tmp 24) (.tmp 25) (.int .u64 (x 0)) (.int .u64 10) (.int .u64 (y 0)) (fun _ => rfl) (hd 4 rfl) (hd 5 rfl) (quou_run hy (by omega) (by omega) _ _ _) (hK _ (Mo.refl _))))
      · exact og_eq (.int .i64 (0)) rfl (fun f wf hq hd K hK => go_run rfl (wo_mv (.tmp 8) (.int .i64 (0)) (fun _ => rfl) e8 (hK _ (Mo.refl _))))
      · exact og_eq (.int .i64 (0)) rfl (fun f wf hq hd K hK => go_run rfl (wo_bin (fun x y => do eqGuard .rem 3 (.tmp 27) (.const (.int .i64 (2))) x y; binOp .rem 3 x y) (.tmp 27) (.const (.int .i64 (2))) (.int .i64 (0)) (.int .i64 (2)) (.int .i64 (0)) (fun _ => rfl) (hd 7 rfl) rfl (by kernel_rfl) (hK _ (Mo.refl _))))
      · exact og_eq (.int .i64 (0)) rfl (fun f wf hq hd K hK => go_run rfl (wo_bin (fun x y => do eqGuard .mul 3 (.tmp 28) (.const (.int .i64 (32))) x y; binOp .mul 3 x y) (.tmp 28) (.const (.int .i64 (32))) (.int .i64 (0)) (.int .i64 (32)) (.int .i64 (0)) (fun _ => rfl) (hd 8 rfl) rfl (by kernel_rfl) (hK _ (Mo.refl _))))
      · exact og_eq (.int .u64 (y 0)) rfl (fun f wf hq hd K hK => go_run rfl (wo_bin (fun x y => do eqGuard .shl 22 (.tmp 26) (.tmp 29) x y; binOp .shl 22 x y) (.tmp 26) (.tmp 29) (.int .u64 (y 0)) (.int .i64 (0)) (.int .u64 (y 0)) (fun _ => rfl) (hd 6 rfl) (hd 9 rfl) (shl0_run (by omega) (by omega) _ _ _) (hK _ (Mo.refl _))))
      · exact og_eq (.int .u64 (y 1 * 4294967296 + y 0)) rfl (fun f wf hq hd K hK => go_run rfl (wo_bin (fun x y => do eqGuard .add 22 (.tmp 23) (.tmp 30) x y; binOp .add 22 x y) (.tmp 23) (.tmp 30) (.int .u64 (y 1 * 4294967296)) (.int .u64 (y 0)) (.int .u64 (y 1 * 4294967296 + y 0)) (fun _ => rfl) (hd 3 rfl) (hd 10 rfl) (addu_run (by omega) (by omega) (by omega) _ _ _) (hK _ (Mo.refl _))))
      · exact og_eq (pt k3 0) rfl (fun f wf hq hd K hK => go_run rfl (wo_bin (fun x y => Instr.indexAt 24 x y) (.tmp 6) (.tmp 21) (pt k3 0) (.int .i64 (0)) (pt k3 0) (fun _ => rfl) e6 (hd 1 rfl) (by kernel_rfl) (hK _ (Mo.refl _))))
    intro kf22 w22 hq hR hne
    replace Q1 := Q1.mo hq
    replace Q2 := Q2.mo hq
    replace Q3 := Q3.mo hq
    replace M := M.trans hq
    clear hq hR hne
    refine wl_st1 22 (.tmp 32) (.tmp 31) k3 0 (.int .u64 (y 1 * 4294967296 + y 0)) [.int .u64 (y 1 * 4294967296), .int .u64 (y 3 * 4294967296 + y 2), .int .u64 (y 5 * 4294967296 + y 4), .int .u64 (y 7 * 4294967296 + y 6)] [.int .u64 (y 1 * 4294967296 + y 0), .int .u64 (y 3 * 4294967296 + y 2), .int .u64 (y 5 * 4294967296 + y 4), .int .u64 (y 7 * 4294967296 + y 6)] Q3 rfl rfl rfl rfl rfl sz22b rfl rfl rfl rfl ?_
    intro w23 hS Qn
    replace Q3 := Qn
    clear Qn
    replace Q1 := hS.other _ _ ne_k1_k3 Q1
    replace Q2 := hS.other _ _ ne_k2_k3 Q2
    replace M := hS.mo _ N_k3 M
    clear hS
    refine w_nil ?_
    refine xn_then ?_
    refine w_reg ?_
    refine wl_mv (.tmp 9) (.int .u64 (x 0)) (fun _ => rfl) rfl rfl ?_
    refine wl_mv (.tmp 1) (.int .u64 10) (fun _ => rfl) e1 rfl ?_
    refine wl_bin (fun x y => do eqGuard .rem 22 (.tmp 33) (.tmp 34) x y; binOp .rem 22 x y) (.tmp 33) (.tmp 34) (.int .u64 (x 0)) (.int .u64 10) (.int .u64 (r 0)) (fun _ => rfl) rfl rfl (remu_run hr (by omega) _ _ _) rfl ?_
    refine wl_mv (.tmp 35) (.int .u64 (r 0)) (fun _ => rfl) rfl rfl ?_
    refine w_nil ?_
    refine xn_blk ?_
    refine xn_then ?_
    refine w_reg ?_
    refine wl_mv (.tmp 8) (.int .i64 (0)) (fun _ => rfl) e8 rfl ?_
    refine wl_bin (fun x y => do eqGuard .sub 3 (.tmp 12) (.const (.int .i64 (1))) x y; binOp .sub 3 x y) (.tmp 12) (.const (.int .i64 (1))) (.int .i64 (0)) (.int .i64 (1)) (.int .i64 (-1)) (fun _ => rfl) rfl rfl (by kernel_rfl) rfl ?_
    refine wl_mv (.tmp 13) (.int .i64 (-1)) (fun _ => rfl) rfl rfl ?_
    refine w_nil ?_
    exact xn_loop 0 (by decide) ⟨by decide, rfl, rfl, e1, e2, e4, e6, Q1, Q2, Q3, M⟩
  · obtain ⟨hx, hy, hr⟩ := hxy 1 (by decide)
    have hd := dg_bd n 1
    have hb := rb 1 (by decide)
    have hb1 := rb 2 (by decide)
    have hy2 := yb 2 (by decide)
    have hy3 := yb 3 (by decide)
    have hy4 := yb 4 (by decide)
    have hy5 := yb 5 (by decide)
    have hy6 := yb 6 (by decide)
    have hy7 := yb 7 (by decide)
    have hyi := yb 1 (by decide)
    refine w_seq ?_
    refine w_seq ?_
    refine w_reg ?_
    refine wl_mv (.tmp 8) (.int .i64 (1)) (fun _ => rfl) e8 rfl ?_
    refine wl_bin (fun x y => do eqGuard .geq 3 (.tmp 10) (.const (.int .i64 (0))) x y; binOp .geq 3 x y) (.tmp 10) (.const (.int .i64 (0))) (.int .i64 (1)) (.int .i64 (0)) (.bool true) (fun _ => rfl) rfl rfl (by kernel_rfl) rfl ?_
    refine w_nil ?_
    refine xn_then ?_
    refine w_condT rfl ?_
    refine w_skip ?_
    refine xn_then ?_
    refine w_seq ?_
    refine w_block ?_
    refine w_seq ?_
    refine w_reg ?_
    refine wl_mv (.tmp 7) (.int .u64 (r 2)) (fun _ => rfl) e7 rfl ?_
    refine wl_bin (fun x y => do eqGuard .shl 22 (.tmp 14) (.const (.int .u64 (32))) x y; binOp .shl 22 x y) (.tmp 14) (.const (.int .u64 (32))) (.int .u64 (r 2)) (.int .u64 (32)) (.int .u64 (r 2 * 4294967296)) (fun _ => rfl) rfl rfl (shlu_run rfl (by omega) (by omega) _ _ _) rfl ?_
    refine wl_load 24 (.tmp 2) (pt k1 0) (nv (n)) rfl e2 (run_row Q1 24 0 4 (nvli (n)) rfl Try.underlying24 rfl sz24) rfl ?_
    refine wl_mv (.tmp 8) (.int .i64 (1)) (fun _ => rfl) e8 rfl ?_
    refine wl_call 55 [(.tmp 16), (.tmp 17)] _ [nv (n), .int .i64 (1)] (.int .u64 (dg n 1)) rfl rfl (fun _ _ => by kernel_rfl) (half_any n 1 _ (by decide)) rfl ?_
    intro w21 hq
    replace Q1 := Q1.mo hq
    replace Q2 := Q2.mo hq
    replace Q3 := Q3.mo hq
    replace M := M.trans hq
    clear hq
    refine wl_bin (fun x y => do eqGuard .add 22 (.tmp 15) (.tmp 18) x y; binOp .add 22 x y) (.tmp 15) (.tmp 18) (.int .u64 (r 2 * 4294967296)) (.int .u64 (dg n 1)) (.int .u64 (x 1)) (fun _ => rfl) rfl rfl (addu_run hx (by omega) (by omega) _ _ _) rfl ?_
    refine wl_mv (.tmp 19) (.int .u64 (x 1)) (fun _ => rfl) rfl rfl ?_
    refine w_nil ?_
    refine xn_then ?_
    refine w_seq ?_
    refine w_any 13 [.inl (.int .i64 (1)), .inl (.int .i64 (0)), .inl (pt k3 0), .inl (.int .u64 0), .inl (.int .u64 (x 1)), .inl (.int .u64 10), .inl (.int .u64 (y 1)), .inl (.int .i64 (1)), .inl (.int .i64 (1)), .inl (.int .i64 (32)), .inl (.int .u64 (y 1 * 4294967296)), .inl (.int .u64 (y 1 * 4294967296)), .inl (pt k3 0)] [] (by kernel_rfl) (by kernel_rfl) (by kernel_rfl) (by kernel_rfl) rfl (by kernel_rfl) (by kernel_rfl) late_nil ?_ ?_ ?_
    · exact Ds.none rfl
    · refine ea_cons ?_ (ea_cons ?_ (ea_cons ?_ (ea_cons ?_ (ea_cons ?_ (ea_cons ?_ (ea_cons ?_ (ea_cons ?_ (ea_cons ?_ (ea_cons ?_ (ea_cons ?_ (ea_cons ?_ (ea_cons ?_ (ea_nil)))))))))))))
      · exact og_eq (.int .i64 (1)) rfl (fun f wf hq hd K hK => go_run rfl (wo_mv (.tmp 8) (.int .i64 (1)) (fun _ => rfl) e8 (hK _ (Mo.refl _))))
      · exact og_eq (.int .i64 (0)) rfl (fun f wf hq hd K hK => go_run rfl (wo_bin (fun x y => do eqGuard .quo 3 (.tmp 20) (.const (.int .i64 (2))) x y; binOp .quo 3 x y) (.tmp 20) (.const (.int .i64 (2))) (.int .i64 (1)) (.int .i64 (2)) (.int .i64 (0)) (fun _ => rfl) (hd 0 rfl) rfl (by kernel_rfl) (hK _ (Mo.refl _))))
      · exact og_eq (pt k3 0) rfl (fun f wf hq hd K hK => go_run rfl (wo_bin (fun x y => Instr.indexAt 24 x y) (.tmp 6) (.tmp 21) (pt k3 0) (.int .i64 (0)) (pt k3 0) (fun _ => rfl) e6 (hd 1 rfl) (by kernel_rfl) (hK _ (Mo.refl _))))
      · exact og_eq (.int .u64 0) rfl (fun f wf hq hd K hK => have Q3 := Q3.mo hq; go_run rfl (wo_load 22 (.tmp 22) (pt k3 0) (.int .u64 0) rfl (hd 2 rfl) (run_one Q3 22 0 rfl Try.underlying22 rfl) (hK _ (Mo.refl _))))
      · exact og_eq (.int .u64 (x 1)) rfl (fun f wf hq hd K hK => go_run rfl (wo_mv (.tmp 9) (.int .u64 (x 1)) (fun _ => rfl) rfl (hK _ (Mo.refl _))))
      · exact og_eq (.int .u64 10) rfl (fun f wf hq hd K hK => go_run rfl (wo_mv (.tmp 1) (.int .u64 10) (fun _ => rfl) e1 (hK _ (Mo.refl _))))
      · exact og_eq (.int .u64 (y 1)) rfl (fun f wf hq hd K hK => go_run rfl (wo_bin (fun x y => do eqGuard .quo 22 (.tmp 24) (.tmp 25) x y; binOp .quo 22 x y) (.tmp 24) (.tmp 25) (.int .u64 (x 1)) (.int .u64 10) (.int .u64 (y 1)) (fun _ => rfl) (hd 4 rfl) (hd 5 rfl) (quou_run hy (by omega) (by omega) _ _ _) (hK _ (Mo.refl _))))
      · exact og_eq (.int .i64 (1)) rfl (fun f wf hq hd K hK => go_run rfl (wo_mv (.tmp 8) (.int .i64 (1)) (fun _ => rfl) e8 (hK _ (Mo.refl _))))
      · exact og_eq (.int .i64 (1)) rfl (fun f wf hq hd K hK => go_run rfl (wo_bin (fun x y => do eqGuard .rem 3 (.tmp 27) (.const (.int .i64 (2))) x y; binOp .rem 3 x y) (.tmp 27) (.const (.int .i64 (2))) (.int .i64 (1)) (.int .i64 (2)) (.int .i64 (1)) (fun _ => rfl) (hd 7 rfl) rfl (by kernel_rfl) (hK _ (Mo.refl _))))
      · exact og_eq (.int .i64 (32)) rfl (fun f wf hq hd K hK => go_run rfl (wo_bin (fun x y => do eqGuard .mul 3 (.tmp 28) (.const (.int .i64 (32))) x y; binOp .mul 3 x y) (.tmp 28) (.const (.int .i64 (32))) (.int .i64 (1)) (.int .i64 (32)) (.int .i64 (32)) (fun _ => rfl) (hd 8 rfl) rfl (by kernel_rfl) (hK _ (Mo.refl _))))
      · exact og_eq (.int .u64 (y 1 * 4294967296)) rfl (fun f wf hq hd K hK => go_run rfl (wo_bin (fun x y => do eqGuard .shl 22 (.tmp 26) (.tmp 29) x y; binOp .shl 22 x y) (.tmp 26) (.tmp 29) (.int .u64 (y 1)) (.int .i64 (32)) (.int .u64 (y 1 * 4294967296)) (fun _ => rfl) (hd 6 rfl) (hd 9 rfl) (shli_run rfl (by omega) (by omega) _ _ _) (hK _ (Mo.refl _))))
      · exact og_eq (.int .u64 (y 1 * 4294967296)) rfl (fun f wf hq hd K hK => go_run rfl (wo_bin (fun x y => do eqGuard .add 22 (.tmp 23) (.tmp 30) x y; binOp .add 22 x y) (.tmp 23) (.tmp 30) (.int .u64 0) (.int .u64 (y 1 * 4294967296)) (.int .u64 (y 1 * 4294967296)) (fun _ => rfl) (hd 3 rfl) (hd 10 rfl) (addu_run (by omega) (by omega) (by omega) _ _ _) (hK _ (Mo.refl _))))
      · exact og_eq (pt k3 0) rfl (fun f wf hq hd K hK => go_run rfl (wo_bin (fun x y => Instr.indexAt 24 x y) (.tmp 6) (.tmp 21) (pt k3 0) (.int .i64 (0)) (pt k3 0) (fun _ => rfl) e6 (hd 1 rfl) (by kernel_rfl) (hK _ (Mo.refl _))))
    intro kf22 w22 hq hR hne
    replace Q1 := Q1.mo hq
    replace Q2 := Q2.mo hq
    replace Q3 := Q3.mo hq
    replace M := M.trans hq
    clear hq hR hne
    refine wl_st1 22 (.tmp 32) (.tmp 31) k3 0 (.int .u64 (y 1 * 4294967296)) [.int .u64 0, .int .u64 (y 3 * 4294967296 + y 2), .int .u64 (y 5 * 4294967296 + y 4), .int .u64 (y 7 * 4294967296 + y 6)] [.int .u64 (y 1 * 4294967296), .int .u64 (y 3 * 4294967296 + y 2), .int .u64 (y 5 * 4294967296 + y 4), .int .u64 (y 7 * 4294967296 + y 6)] Q3 rfl rfl rfl rfl rfl sz22b rfl rfl rfl rfl ?_
    intro w23 hS Qn
    replace Q3 := Qn
    clear Qn
    replace Q1 := hS.other _ _ ne_k1_k3 Q1
    replace Q2 := hS.other _ _ ne_k2_k3 Q2
    replace M := hS.mo _ N_k3 M
    clear hS
    refine w_nil ?_
    refine xn_then ?_
    refine w_reg ?_
    refine wl_mv (.tmp 9) (.int .u64 (x 1)) (fun _ => rfl) rfl rfl ?_
    refine wl_mv (.tmp 1) (.int .u64 10) (fun _ => rfl) e1 rfl ?_
    refine wl_bin (fun x y => do eqGuard .rem 22 (.tmp 33) (.tmp 34) x y; binOp .rem 22 x y) (.tmp 33) (.tmp 34) (.int .u64 (x 1)) (.int .u64 10) (.int .u64 (r 1)) (fun _ => rfl) rfl rfl (remu_run hr (by omega) _ _ _) rfl ?_
    refine wl_mv (.tmp 35) (.int .u64 (r 1)) (fun _ => rfl) rfl rfl ?_
    refine w_nil ?_
    refine xn_blk ?_
    refine xn_then ?_
    refine w_reg ?_
    refine wl_mv (.tmp 8) (.int .i64 (1)) (fun _ => rfl) e8 rfl ?_
    refine wl_bin (fun x y => do eqGuard .sub 3 (.tmp 12) (.const (.int .i64 (1))) x y; binOp .sub 3 x y) (.tmp 12) (.const (.int .i64 (1))) (.int .i64 (1)) (.int .i64 (1)) (.int .i64 (0)) (fun _ => rfl) rfl rfl (by kernel_rfl) rfl ?_
    refine wl_mv (.tmp 13) (.int .i64 (0)) (fun _ => rfl) rfl rfl ?_
    refine w_nil ?_
    exact xn_loop 1 (by decide) ⟨by decide, rfl, rfl, e1, e2, e4, e6, Q1, Q2, Q3, M⟩
  · obtain ⟨hx, hy, hr⟩ := hxy 2 (by decide)
    have hd := dg_bd n 2
    have hb := rb 2 (by decide)
    have hb1 := rb 3 (by decide)
    have hy3 := yb 3 (by decide)
    have hy4 := yb 4 (by decide)
    have hy5 := yb 5 (by decide)
    have hy6 := yb 6 (by decide)
    have hy7 := yb 7 (by decide)
    have hyi := yb 2 (by decide)
    refine w_seq ?_
    refine w_seq ?_
    refine w_reg ?_
    refine wl_mv (.tmp 8) (.int .i64 (2)) (fun _ => rfl) e8 rfl ?_
    refine wl_bin (fun x y => do eqGuard .geq 3 (.tmp 10) (.const (.int .i64 (0))) x y; binOp .geq 3 x y) (.tmp 10) (.const (.int .i64 (0))) (.int .i64 (2)) (.int .i64 (0)) (.bool true) (fun _ => rfl) rfl rfl (by kernel_rfl) rfl ?_
    refine w_nil ?_
    refine xn_then ?_
    refine w_condT rfl ?_
    refine w_skip ?_
    refine xn_then ?_
    refine w_seq ?_
    refine w_block ?_
    refine w_seq ?_
    refine w_reg ?_
    refine wl_mv (.tmp 7) (.int .u64 (r 3)) (fun _ => rfl) e7 rfl ?_
    refine wl_bin (fun x y => do eqGuard .shl 22 (.tmp 14) (.const (.int .u64 (32))) x y; binOp .shl 22 x y) (.tmp 14) (.const (.int .u64 (32))) (.int .u64 (r 3)) (.int .u64 (32)) (.int .u64 (r 3 * 4294967296)) (fun _ => rfl) rfl rfl (shlu_run rfl (by omega) (by omega) _ _ _) rfl ?_
    refine wl_load 24 (.tmp 2) (pt k1 0) (nv (n)) rfl e2 (run_row Q1 24 0 4 (nvli (n)) rfl Try.underlying24 rfl sz24) rfl ?_
    refine wl_mv (.tmp 8) (.int .i64 (2)) (fun _ => rfl) e8 rfl ?_
    refine wl_call 55 [(.tmp 16), (.tmp 17)] _ [nv (n), .int .i64 (2)] (.int .u64 (dg n 2)) rfl rfl (fun _ _ => by kernel_rfl) (half_any n 2 _ (by decide)) rfl ?_
    intro w21 hq
    replace Q1 := Q1.mo hq
    replace Q2 := Q2.mo hq
    replace Q3 := Q3.mo hq
    replace M := M.trans hq
    clear hq
    refine wl_bin (fun x y => do eqGuard .add 22 (.tmp 15) (.tmp 18) x y; binOp .add 22 x y) (.tmp 15) (.tmp 18) (.int .u64 (r 3 * 4294967296)) (.int .u64 (dg n 2)) (.int .u64 (x 2)) (fun _ => rfl) rfl rfl (addu_run hx (by omega) (by omega) _ _ _) rfl ?_
    refine wl_mv (.tmp 19) (.int .u64 (x 2)) (fun _ => rfl) rfl rfl ?_
    refine w_nil ?_
    refine xn_then ?_
    refine w_seq ?_
    refine w_any 13 [.inl (.int .i64 (2)), .inl (.int .i64 (1)), .inl (pt k3 1), .inl (.int .u64 (y 3 * 4294967296)), .inl (.int .u64 (x 2)), .inl (.int .u64 10), .inl (.int .u64 (y 2)), .inl (.int .i64 (2)), .inl (.int .i64 (0)), .inl (.int .i64 (0)), .inl (.int .u64 (y 2)), .inl (.int .u64 (y 3 * 4294967296 + y 2)), .inl (pt k3 1)] [] (by kernel_rfl) (by kernel_rfl) (by kernel_rfl) (by kernel_rfl) rfl (by kernel_rfl) (by kernel_rfl) late_nil ?_ ?_ ?_
    · exact Ds.none rfl
    · refine ea_cons ?_ (ea_cons ?_ (ea_cons ?_ (ea_cons ?_ (ea_cons ?_ (ea_cons ?_ (ea_cons ?_ (ea_cons ?_ (ea_cons ?_ (ea_cons ?_ (ea_cons ?_ (ea_cons ?_ (ea_cons ?_ (ea_nil)))))))))))))
      · exact og_eq (.int .i64 (2)) rfl (fun f wf hq hd K hK => go_run rfl (wo_mv (.tmp 8) (.int .i64 (2)) (fun _ => rfl) e8 (hK _ (Mo.refl _))))
      · exact og_eq (.int .i64 (1)) rfl (fun f wf hq hd K hK => go_run rfl (wo_bin (fun x y => do eqGuard .quo 3 (.tmp 20) (.const (.int .i64 (2))) x y; binOp .quo 3 x y) (.tmp 20) (.const (.int .i64 (2))) (.int .i64 (2)) (.int .i64 (2)) (.int .i64 (1)) (fun _ => rfl) (hd 0 rfl) rfl (by kernel_rfl) (hK _ (Mo.refl _))))
      · exact og_eq (pt k3 1) rfl (fun f wf hq hd K hK => go_run rfl (wo_bin (fun x y => Instr.indexAt 24 x y) (.tmp 6) (.tmp 21) (pt k3 0) (.int .i64 (1)) (pt k3 1) (fun _ => rfl) e6 (hd 1 rfl) (by kernel_rfl) (hK _ (Mo.refl _))))
      · exact og_eq (.int .u64 (y 3 * 4294967296)) rfl (fun f wf hq hd K hK => have Q3 := Q3.mo hq; go_run rfl (wo_load 22 (.tmp 22) (pt k3 1) (.int .u64 (y 3 * 4294967296)) rfl (hd 2 rfl) (run_one Q3 22 1 rfl Try.underlying22 rfl) (hK _ (Mo.refl _))))
      · exact og_eq (.int .u64 (x 2)) rfl (fun f wf hq hd K hK => go_run rfl (wo_mv (.tmp 9) (.int .u64 (x 2)) (fun _ => rfl) rfl (hK _ (Mo.refl _))))
      · exact og_eq (.int .u64 10) rfl (fun f wf hq hd K hK => go_run rfl (wo_mv (.tmp 1) (.int .u64 10) (fun _ => rfl) e1 (hK _ (Mo.refl _))))
      · exact og_eq (.int .u64 (y 2)) rfl (fun f wf hq hd K hK => go_run rfl (wo_bin (fun x y => do eqGuard .quo 22 (.tmp 24) (.tmp 25) x y; binOp .quo 22 x y) (.tmp 24) (.tmp 25) (.int .u64 (x 2)) (.int .u64 10) (.int .u64 (y 2)) (fun _ => rfl) (hd 4 rfl) (hd 5 rfl) (quou_run hy (by omega) (by omega) _ _ _) (hK _ (Mo.refl _))))
      · exact og_eq (.int .i64 (2)) rfl (fun f wf hq hd K hK => go_run rfl (wo_mv (.tmp 8) (.int .i64 (2)) (fun _ => rfl) e8 (hK _ (Mo.refl _))))
      · exact og_eq (.int .i64 (0)) rfl (fun f wf hq hd K hK => go_run rfl (wo_bin (fun x y => do eqGuard .rem 3 (.tmp 27) (.const (.int .i64 (2))) x y; binOp .rem 3 x y) (.tmp 27) (.const (.int .i64 (2))) (.int .i64 (2)) (.int .i64 (2)) (.int .i64 (0)) (fun _ => rfl) (hd 7 rfl) rfl (by kernel_rfl) (hK _ (Mo.refl _))))
      · exact og_eq (.int .i64 (0)) rfl (fun f wf hq hd K hK => go_run rfl (wo_bin (fun x y => do eqGuard .mul 3 (.tmp 28) (.const (.int .i64 (32))) x y; binOp .mul 3 x y) (.tmp 28) (.const (.int .i64 (32))) (.int .i64 (0)) (.int .i64 (32)) (.int .i64 (0)) (fun _ => rfl) (hd 8 rfl) rfl (by kernel_rfl) (hK _ (Mo.refl _))))
      · exact og_eq (.int .u64 (y 2)) rfl (fun f wf hq hd K hK => go_run rfl (wo_bin (fun x y => do eqGuard .shl 22 (.tmp 26) (.tmp 29) x y; binOp .shl 22 x y) (.tmp 26) (.tmp 29) (.int .u64 (y 2)) (.int .i64 (0)) (.int .u64 (y 2)) (fun _ => rfl) (hd 6 rfl) (hd 9 rfl) (shl0_run (by omega) (by omega) _ _ _) (hK _ (Mo.refl _))))
      · exact og_eq (.int .u64 (y 3 * 4294967296 + y 2)) rfl (fun f wf hq hd K hK => go_run rfl (wo_bin (fun x y => do eqGuard .add 22 (.tmp 23) (.tmp 30) x y; binOp .add 22 x y) (.tmp 23) (.tmp 30) (.int .u64 (y 3 * 4294967296)) (.int .u64 (y 2)) (.int .u64 (y 3 * 4294967296 + y 2)) (fun _ => rfl) (hd 3 rfl) (hd 10 rfl) (addu_run (by omega) (by omega) (by omega) _ _ _) (hK _ (Mo.refl _))))
      · exact og_eq (pt k3 1) rfl (fun f wf hq hd K hK => go_run rfl (wo_bin (fun x y => Instr.indexAt 24 x y) (.tmp 6) (.tmp 21) (pt k3 0) (.int .i64 (1)) (pt k3 1) (fun _ => rfl) e6 (hd 1 rfl) (by kernel_rfl) (hK _ (Mo.refl _))))
    intro kf22 w22 hq hR hne
    replace Q1 := Q1.mo hq
    replace Q2 := Q2.mo hq
    replace Q3 := Q3.mo hq
    replace M := M.trans hq
    clear hq hR hne
    refine wl_st1 22 (.tmp 32) (.tmp 31) k3 1 (.int .u64 (y 3 * 4294967296 + y 2)) [.int .u64 0, .int .u64 (y 3 * 4294967296), .int .u64 (y 5 * 4294967296 + y 4), .int .u64 (y 7 * 4294967296 + y 6)] [.int .u64 0, .int .u64 (y 3 * 4294967296 + y 2), .int .u64 (y 5 * 4294967296 + y 4), .int .u64 (y 7 * 4294967296 + y 6)] Q3 rfl rfl rfl rfl rfl sz22b rfl rfl rfl rfl ?_
    intro w23 hS Qn
    replace Q3 := Qn
    clear Qn
    replace Q1 := hS.other _ _ ne_k1_k3 Q1
    replace Q2 := hS.other _ _ ne_k2_k3 Q2
    replace M := hS.mo _ N_k3 M
    clear hS
    refine w_nil ?_
    refine xn_then ?_
    refine w_reg ?_
    refine wl_mv (.tmp 9) (.int .u64 (x 2)) (fun _ => rfl) rfl rfl ?_
    refine wl_mv (.tmp 1) (.int .u64 10) (fun _ => rfl) e1 rfl ?_
    refine wl_bin (fun x y => do eqGuard .rem 22 (.tmp 33) (.tmp 34) x y; binOp .rem 22 x y) (.tmp 33) (.tmp 34) (.int .u64 (x 2)) (.int .u64 10) (.int .u64 (r 2)) (fun _ => rfl) rfl rfl (remu_run hr (by omega) _ _ _) rfl ?_
    refine wl_mv (.tmp 35) (.int .u64 (r 2)) (fun _ => rfl) rfl rfl ?_
    refine w_nil ?_
    refine xn_blk ?_
    refine xn_then ?_
    refine w_reg ?_
    refine wl_mv (.tmp 8) (.int .i64 (2)) (fun _ => rfl) e8 rfl ?_
    refine wl_bin (fun x y => do eqGuard .sub 3 (.tmp 12) (.const (.int .i64 (1))) x y; binOp .sub 3 x y) (.tmp 12) (.const (.int .i64 (1))) (.int .i64 (2)) (.int .i64 (1)) (.int .i64 (1)) (fun _ => rfl) rfl rfl (by kernel_rfl) rfl ?_
    refine wl_mv (.tmp 13) (.int .i64 (1)) (fun _ => rfl) rfl rfl ?_
    refine w_nil ?_
    exact xn_loop 2 (by decide) ⟨by decide, rfl, rfl, e1, e2, e4, e6, Q1, Q2, Q3, M⟩
  · obtain ⟨hx, hy, hr⟩ := hxy 3 (by decide)
    have hd := dg_bd n 3
    have hb := rb 3 (by decide)
    have hb1 := rb 4 (by decide)
    have hy4 := yb 4 (by decide)
    have hy5 := yb 5 (by decide)
    have hy6 := yb 6 (by decide)
    have hy7 := yb 7 (by decide)
    have hyi := yb 3 (by decide)
    refine w_seq ?_
    refine w_seq ?_
    refine w_reg ?_
    refine wl_mv (.tmp 8) (.int .i64 (3)) (fun _ => rfl) e8 rfl ?_
    refine wl_bin (fun x y => do eqGuard .geq 3 (.tmp 10) (.const (.int .i64 (0))) x y; binOp .geq 3 x y) (.tmp 10) (.const (.int .i64 (0))) (.int .i64 (3)) (.int .i64 (0)) (.bool true) (fun _ => rfl) rfl rfl (by kernel_rfl) rfl ?_
    refine w_nil ?_
    refine xn_then ?_
    refine w_condT rfl ?_
    refine w_skip ?_
    refine xn_then ?_
    refine w_seq ?_
    refine w_block ?_
    refine w_seq ?_
    refine w_reg ?_
    refine wl_mv (.tmp 7) (.int .u64 (r 4)) (fun _ => rfl) e7 rfl ?_
    refine wl_bin (fun x y => do eqGuard .shl 22 (.tmp 14) (.const (.int .u64 (32))) x y; binOp .shl 22 x y) (.tmp 14) (.const (.int .u64 (32))) (.int .u64 (r 4)) (.int .u64 (32)) (.int .u64 (r 4 * 4294967296)) (fun _ => rfl) rfl rfl (shlu_run rfl (by omega) (by omega) _ _ _) rfl ?_
    refine wl_load 24 (.tmp 2) (pt k1 0) (nv (n)) rfl e2 (run_row Q1 24 0 4 (nvli (n)) rfl Try.underlying24 rfl sz24) rfl ?_
    refine wl_mv (.tmp 8) (.int .i64 (3)) (fun _ => rfl) e8 rfl ?_
    refine wl_call 55 [(.tmp 16), (.tmp 17)] _ [nv (n), .int .i64 (3)] (.int .u64 (dg n 3)) rfl rfl (fun _ _ => by kernel_rfl) (half_any n 3 _ (by decide)) rfl ?_
    intro w21 hq
    replace Q1 := Q1.mo hq
    replace Q2 := Q2.mo hq
    replace Q3 := Q3.mo hq
    replace M := M.trans hq
    clear hq
    refine wl_bin (fun x y => do eqGuard .add 22 (.tmp 15) (.tmp 18) x y; binOp .add 22 x y) (.tmp 15) (.tmp 18) (.int .u64 (r 4 * 4294967296)) (.int .u64 (dg n 3)) (.int .u64 (x 3)) (fun _ => rfl) rfl rfl (addu_run hx (by omega) (by omega) _ _ _) rfl ?_
    refine wl_mv (.tmp 19) (.int .u64 (x 3)) (fun _ => rfl) rfl rfl ?_
    refine w_nil ?_
    refine xn_then ?_
    refine w_seq ?_
    refine w_any 13 [.inl (.int .i64 (3)), .inl (.int .i64 (1)), .inl (pt k3 1), .inl (.int .u64 0), .inl (.int .u64 (x 3)), .inl (.int .u64 10), .inl (.int .u64 (y 3)), .inl (.int .i64 (3)), .inl (.int .i64 (1)), .inl (.int .i64 (32)), .inl (.int .u64 (y 3 * 4294967296)), .inl (.int .u64 (y 3 * 4294967296)), .inl (pt k3 1)] [] (by kernel_rfl) (by kernel_rfl) (by kernel_rfl) (by kernel_rfl) rfl (by kernel_rfl) (by kernel_rfl) late_nil ?_ ?_ ?_
    · exact Ds.none rfl
    · refine ea_cons ?_ (ea_cons ?_ (ea_cons ?_ (ea_cons ?_ (ea_cons ?_ (ea_cons ?_ (ea_cons ?_ (ea_cons ?_ (ea_cons ?_ (ea_cons ?_ (ea_cons ?_ (ea_cons ?_ (ea_cons ?_ (ea_nil)))))))))))))
      · exact og_eq (.int .i64 (3)) rfl (fun f wf hq hd K hK => go_run rfl (wo_mv (.tmp 8) (.int .i64 (3)) (fun _ => rfl) e8 (hK _ (Mo.refl _))))
      · exact og_eq (.int .i64 (1)) rfl (fun f wf hq hd K hK => go_run rfl (wo_bin (fun x y => do eqGuard .quo 3 (.tmp 20) (.const (.int .i64 (2))) x y; binOp .quo 3 x y) (.tmp 20) (.const (.int .i64 (2))) (.int .i64 (3)) (.int .i64 (2)) (.int .i64 (1)) (fun _ => rfl) (hd 0 rfl) rfl (by kernel_rfl) (hK _ (Mo.refl _))))
      · exact og_eq (pt k3 1) rfl (fun f wf hq hd K hK => go_run rfl (wo_bin (fun x y => Instr.indexAt 24 x y) (.tmp 6) (.tmp 21) (pt k3 0) (.int .i64 (1)) (pt k3 1) (fun _ => rfl) e6 (hd 1 rfl) (by kernel_rfl) (hK _ (Mo.refl _))))
      · exact og_eq (.int .u64 0) rfl (fun f wf hq hd K hK => have Q3 := Q3.mo hq; go_run rfl (wo_load 22 (.tmp 22) (pt k3 1) (.int .u64 0) rfl (hd 2 rfl) (run_one Q3 22 1 rfl Try.underlying22 rfl) (hK _ (Mo.refl _))))
      · exact og_eq (.int .u64 (x 3)) rfl (fun f wf hq hd K hK => go_run rfl (wo_mv (.tmp 9) (.int .u64 (x 3)) (fun _ => rfl) rfl (hK _ (Mo.refl _))))
      · exact og_eq (.int .u64 10) rfl (fun f wf hq hd K hK => go_run rfl (wo_mv (.tmp 1) (.int .u64 10) (fun _ => rfl) e1 (hK _ (Mo.refl _))))
      · exact og_eq (.int .u64 (y 3)) rfl (fun f wf hq hd K hK => go_run rfl (wo_bin (fun x y => do eqGuard .quo 22 (.tmp 24) (.tmp 25) x y; binOp .quo 22 x y) (.tmp 24) (.tmp 25) (.int .u64 (x 3)) (.int .u64 10) (.int .u64 (y 3)) (fun _ => rfl) (hd 4 rfl) (hd 5 rfl) (quou_run hy (by omega) (by omega) _ _ _) (hK _ (Mo.refl _))))
      · exact og_eq (.int .i64 (3)) rfl (fun f wf hq hd K hK => go_run rfl (wo_mv (.tmp 8) (.int .i64 (3)) (fun _ => rfl) e8 (hK _ (Mo.refl _))))
      · exact og_eq (.int .i64 (1)) rfl (fun f wf hq hd K hK => go_run rfl (wo_bin (fun x y => do eqGuard .rem 3 (.tmp 27) (.const (.int .i64 (2))) x y; binOp .rem 3 x y) (.tmp 27) (.const (.int .i64 (2))) (.int .i64 (3)) (.int .i64 (2)) (.int .i64 (1)) (fun _ => rfl) (hd 7 rfl) rfl (by kernel_rfl) (hK _ (Mo.refl _))))
      · exact og_eq (.int .i64 (32)) rfl (fun f wf hq hd K hK => go_run rfl (wo_bin (fun x y => do eqGuard .mul 3 (.tmp 28) (.const (.int .i64 (32))) x y; binOp .mul 3 x y) (.tmp 28) (.const (.int .i64 (32))) (.int .i64 (1)) (.int .i64 (32)) (.int .i64 (32)) (fun _ => rfl) (hd 8 rfl) rfl (by kernel_rfl) (hK _ (Mo.refl _))))
      · exact og_eq (.int .u64 (y 3 * 4294967296)) rfl (fun f wf hq hd K hK => go_run rfl (wo_bin (fun x y => do eqGuard .shl 22 (.tmp 26) (.tmp 29) x y; binOp .shl 22 x y) (.tmp 26) (.tmp 29) (.int .u64 (y 3)) (.int .i64 (32)) (.int .u64 (y 3 * 4294967296)) (fun _ => rfl) (hd 6 rfl) (hd 9 rfl) (shli_run rfl (by omega) (by omega) _ _ _) (hK _ (Mo.refl _))))
      · exact og_eq (.int .u64 (y 3 * 4294967296)) rfl (fun f wf hq hd K hK => go_run rfl (wo_bin (fun x y => do eqGuard .add 22 (.tmp 23) (.tmp 30) x y; binOp .add 22 x y) (.tmp 23) (.tmp 30) (.int .u64 0) (.int .u64 (y 3 * 4294967296)) (.int .u64 (y 3 * 4294967296)) (fun _ => rfl) (hd 3 rfl) (hd 10 rfl) (addu_run (by omega) (by omega) (by omega) _ _ _) (hK _ (Mo.refl _))))
      · exact og_eq (pt k3 1) rfl (fun f wf hq hd K hK => go_run rfl (wo_bin (fun x y => Instr.indexAt 24 x y) (.tmp 6) (.tmp 21) (pt k3 0) (.int .i64 (1)) (pt k3 1) (fun _ => rfl) e6 (hd 1 rfl) (by kernel_rfl) (hK _ (Mo.refl _))))
    intro kf22 w22 hq hR hne
    replace Q1 := Q1.mo hq
    replace Q2 := Q2.mo hq
    replace Q3 := Q3.mo hq
    replace M := M.trans hq
    clear hq hR hne
    refine wl_st1 22 (.tmp 32) (.tmp 31) k3 1 (.int .u64 (y 3 * 4294967296)) [.int .u64 0, .int .u64 0, .int .u64 (y 5 * 4294967296 + y 4), .int .u64 (y 7 * 4294967296 + y 6)] [.int .u64 0, .int .u64 (y 3 * 4294967296), .int .u64 (y 5 * 4294967296 + y 4), .int .u64 (y 7 * 4294967296 + y 6)] Q3 rfl rfl rfl rfl rfl sz22b rfl rfl rfl rfl ?_
    intro w23 hS Qn
    replace Q3 := Qn
    clear Qn
    replace Q1 := hS.other _ _ ne_k1_k3 Q1
    replace Q2 := hS.other _ _ ne_k2_k3 Q2
    replace M := hS.mo _ N_k3 M
    clear hS
    refine w_nil ?_
    refine xn_then ?_
    refine w_reg ?_
    refine wl_mv (.tmp 9) (.int .u64 (x 3)) (fun _ => rfl) rfl rfl ?_
    refine wl_mv (.tmp 1) (.int .u64 10) (fun _ => rfl) e1 rfl ?_
    refine wl_bin (fun x y => do eqGuard .rem 22 (.tmp 33) (.tmp 34) x y; binOp .rem 22 x y) (.tmp 33) (.tmp 34) (.int .u64 (x 3)) (.int .u64 10) (.int .u64 (r 3)) (fun _ => rfl) rfl rfl (remu_run hr (by omega) _ _ _) rfl ?_
    refine wl_mv (.tmp 35) (.int .u64 (r 3)) (fun _ => rfl) rfl rfl ?_
    refine w_nil ?_
    refine xn_blk ?_
    refine xn_then ?_
    refine w_reg ?_
    refine wl_mv (.tmp 8) (.int .i64 (3)) (fun _ => rfl) e8 rfl ?_
    refine wl_bin (fun x y => do eqGuard .sub 3 (.tmp 12) (.const (.int .i64 (1))) x y; binOp .sub 3 x y) (.tmp 12) (.const (.int .i64 (1))) (.int .i64 (3)) (.int .i64 (1)) (.int .i64 (2)) (fun _ => rfl) rfl rfl (by kernel_rfl) rfl ?_
    refine wl_mv (.tmp 13) (.int .i64 (2)) (fun _ => rfl) rfl rfl ?_
    refine w_nil ?_
    exact xn_loop 3 (by decide) ⟨by decide, rfl, rfl, e1, e2, e4, e6, Q1, Q2, Q3, M⟩
  · obtain ⟨hx, hy, hr⟩ := hxy 4 (by decide)
    have hd := dg_bd n 4
    have hb := rb 4 (by decide)
    have hb1 := rb 5 (by decide)
    have hy5 := yb 5 (by decide)
    have hy6 := yb 6 (by decide)
    have hy7 := yb 7 (by decide)
    have hyi := yb 4 (by decide)
    refine w_seq ?_
    refine w_seq ?_
    refine w_reg ?_
    refine wl_mv (.tmp 8) (.int .i64 (4)) (fun _ => rfl) e8 rfl ?_
    refine wl_bin (fun x y => do eqGuard .geq 3 (.tmp 10) (.const (.int .i64 (0))) x y; binOp .geq 3 x y) (.tmp 10) (.const (.int .i64 (0))) (.int .i64 (4)) (.int .i64 (0)) (.bool true) (fun _ => rfl) rfl rfl (by kernel_rfl) rfl ?_
    refine w_nil ?_
    refine xn_then ?_
    refine w_condT rfl ?_
    refine w_skip ?_
    refine xn_then ?_
    refine w_seq ?_
    refine w_block ?_
    refine w_seq ?_
    refine w_reg ?_
    refine wl_mv (.tmp 7) (.int .u64 (r 5)) (fun _ => rfl) e7 rfl ?_
    refine wl_bin (fun x y => do eqGuard .shl 22 (.tmp 14) (.const (.int .u64 (32))) x y; binOp .shl 22 x y) (.tmp 14) (.const (.int .u64 (32))) (.int .u64 (r 5)) (.int .u64 (32)) (.int .u64 (r 5 * 4294967296)) (fun _ => rfl) rfl rfl (shlu_run rfl (by omega) (by omega) _ _ _) rfl ?_
    refine wl_load 24 (.tmp 2) (pt k1 0) (nv (n)) rfl e2 (run_row Q1 24 0 4 (nvli (n)) rfl Try.underlying24 rfl sz24) rfl ?_
    refine wl_mv (.tmp 8) (.int .i64 (4)) (fun _ => rfl) e8 rfl ?_
    refine wl_call 55 [(.tmp 16), (.tmp 17)] _ [nv (n), .int .i64 (4)] (.int .u64 (dg n 4)) rfl rfl (fun _ _ => by kernel_rfl) (half_any n 4 _ (by decide)) rfl ?_
    intro w21 hq
    replace Q1 := Q1.mo hq
    replace Q2 := Q2.mo hq
    replace Q3 := Q3.mo hq
    replace M := M.trans hq
    clear hq
    refine wl_bin (fun x y => do eqGuard .add 22 (.tmp 15) (.tmp 18) x y; binOp .add 22 x y) (.tmp 15) (.tmp 18) (.int .u64 (r 5 * 4294967296)) (.int .u64 (dg n 4)) (.int .u64 (x 4)) (fun _ => rfl) rfl rfl (addu_run hx (by omega) (by omega) _ _ _) rfl ?_
    refine wl_mv (.tmp 19) (.int .u64 (x 4)) (fun _ => rfl) rfl rfl ?_
    refine w_nil ?_
    refine xn_then ?_
    refine w_seq ?_
    refine w_any 13 [.inl (.int .i64 (4)), .inl (.int .i64 (2)), .inl (pt k3 2), .inl (.int .u64 (y 5 * 4294967296)), .inl (.int .u64 (x 4)), .inl (.int .u64 10), .inl (.int .u64 (y 4)), .inl (.int .i64 (4)), .inl (.int .i64 (0)), .inl (.int .i64 (0)), .inl (.int .u64 (y 4)), .inl (.int .u64 (y 5 * 4294967296 + y 4)), .inl (pt k3 2)] [] (by kernel_rfl) (by kernel_rfl) (by kernel_rfl) (by kernel_rfl) rfl (by kernel_rfl) (by kernel_rfl) late_nil ?_ ?_ ?_
    · exact Ds.none rfl
    · refine ea_cons ?_ (ea_cons ?_ (ea_cons ?_ (ea_cons ?_ (ea_cons ?_ (ea_cons ?_ (ea_cons ?_ (ea_cons ?_ (ea_cons ?_ (ea_cons ?_ (ea_cons ?_ (ea_cons ?_ (ea_cons ?_ (ea_nil)))))))))))))
      · exact og_eq (.int .i64 (4)) rfl (fun f wf hq hd K hK => go_run rfl (wo_mv (.tmp 8) (.int .i64 (4)) (fun _ => rfl) e8 (hK _ (Mo.refl _))))
      · exact og_eq (.int .i64 (2)) rfl (fun f wf hq hd K hK => go_run rfl (wo_bin (fun x y => do eqGuard .quo 3 (.tmp 20) (.const (.int .i64 (2))) x y; binOp .quo 3 x y) (.tmp 20) (.const (.int .i64 (2))) (.int .i64 (4)) (.int .i64 (2)) (.int .i64 (2)) (fun _ => rfl) (hd 0 rfl) rfl (by kernel_rfl) (hK _ (Mo.refl _))))
      · exact og_eq (pt k3 2) rfl (fun f wf hq hd K hK => go_run rfl (wo_bin (fun x y => Instr.indexAt 24 x y) (.tmp 6) (.tmp 21) (pt k3 0) (.int .i64 (2)) (pt k3 2) (fun _ => rfl) e6 (hd 1 rfl) (by kernel_rfl) (hK _ (Mo.refl _))))
      · exact og_eq (.int .u64 (y 5 * 4294967296)) rfl (fun f wf hq hd K hK => have Q3 := Q3.mo hq; go_run rfl (wo_load 22 (.tmp 22) (pt k3 2) (.int .u64 (y 5 * 4294967296)) rfl (hd 2 rfl) (run_one Q3 22 2 rfl Try.underlying22 rfl) (hK _ (Mo.refl _))))
      · exact og_eq (.int .u64 (x 4)) rfl (fun f wf hq hd K hK => go_run rfl (wo_mv (.tmp 9) (.int .u64 (x 4)) (fun _ => rfl) rfl (hK _ (Mo.refl _))))
      · exact og_eq (.int .u64 10) rfl (fun f wf hq hd K hK => go_run rfl (wo_mv (.tmp 1) (.int .u64 10) (fun _ => rfl) e1 (hK _ (Mo.refl _))))
      · exact og_eq (.int .u64 (y 4)) rfl (fun f wf hq hd K hK => go_run rfl (wo_bin (fun x y => do eqGuard .quo 22 (.tmp 24) (.tmp 25) x y; binOp .quo 22 x y) (.tmp 24) (.tmp 25) (.int .u64 (x 4)) (.int .u64 10) (.int .u64 (y 4)) (fun _ => rfl) (hd 4 rfl) (hd 5 rfl) (quou_run hy (by omega) (by omega) _ _ _) (hK _ (Mo.refl _))))
      · exact og_eq (.int .i64 (4)) rfl (fun f wf hq hd K hK => go_run rfl (wo_mv (.tmp 8) (.int .i64 (4)) (fun _ => rfl) e8 (hK _ (Mo.refl _))))
      · exact og_eq (.int .i64 (0)) rfl (fun f wf hq hd K hK => go_run rfl (wo_bin (fun x y => do eqGuard .rem 3 (.tmp 27) (.const (.int .i64 (2))) x y; binOp .rem 3 x y) (.tmp 27) (.const (.int .i64 (2))) (.int .i64 (4)) (.int .i64 (2)) (.int .i64 (0)) (fun _ => rfl) (hd 7 rfl) rfl (by kernel_rfl) (hK _ (Mo.refl _))))
      · exact og_eq (.int .i64 (0)) rfl (fun f wf hq hd K hK => go_run rfl (wo_bin (fun x y => do eqGuard .mul 3 (.tmp 28) (.const (.int .i64 (32))) x y; binOp .mul 3 x y) (.tmp 28) (.const (.int .i64 (32))) (.int .i64 (0)) (.int .i64 (32)) (.int .i64 (0)) (fun _ => rfl) (hd 8 rfl) rfl (by kernel_rfl) (hK _ (Mo.refl _))))
      · exact og_eq (.int .u64 (y 4)) rfl (fun f wf hq hd K hK => go_run rfl (wo_bin (fun x y => do eqGuard .shl 22 (.tmp 26) (.tmp 29) x y; binOp .shl 22 x y) (.tmp 26) (.tmp 29) (.int .u64 (y 4)) (.int .i64 (0)) (.int .u64 (y 4)) (fun _ => rfl) (hd 6 rfl) (hd 9 rfl) (shl0_run (by omega) (by omega) _ _ _) (hK _ (Mo.refl _))))
      · exact og_eq (.int .u64 (y 5 * 4294967296 + y 4)) rfl (fun f wf hq hd K hK => go_run rfl (wo_bin (fun x y => do eqGuard .add 22 (.tmp 23) (.tmp 30) x y; binOp .add 22 x y) (.tmp 23) (.tmp 30) (.int .u64 (y 5 * 4294967296)) (.int .u64 (y 4)) (.int .u64 (y 5 * 4294967296 + y 4)) (fun _ => rfl) (hd 3 rfl) (hd 10 rfl) (addu_run (by omega) (by omega) (by omega) _ _ _) (hK _ (Mo.refl _))))
      · exact og_eq (pt k3 2) rfl (fun f wf hq hd K hK => go_run rfl (wo_bin (fun x y => Instr.indexAt 24 x y) (.tmp 6) (.tmp 21) (pt k3 0) (.int .i64 (2)) (pt k3 2) (fun _ => rfl) e6 (hd 1 rfl) (by kernel_rfl) (hK _ (Mo.refl _))))
    intro kf22 w22 hq hR hne
    replace Q1 := Q1.mo hq
    replace Q2 := Q2.mo hq
    replace Q3 := Q3.mo hq
    replace M := M.trans hq
    clear hq hR hne
    refine wl_st1 22 (.tmp 32) (.tmp 31) k3 2 (.int .u64 (y 5 * 4294967296 + y 4)) [.int .u64 0, .int .u64 0, .int .u64 (y 5 * 4294967296), .int .u64 (y 7 * 4294967296 + y 6)] [.int .u64 0, .int .u64 0, .int .u64 (y 5 * 4294967296 + y 4), .int .u64 (y 7 * 4294967296 + y 6)] Q3 rfl rfl rfl rfl rfl sz22b rfl rfl rfl rfl ?_
    intro w23 hS Qn
    replace Q3 := Qn
    clear Qn
    replace Q1 := hS.other _ _ ne_k1_k3 Q1
    replace Q2 := hS.other _ _ ne_k2_k3 Q2
    replace M := hS.mo _ N_k3 M
    clear hS
    refine w_nil ?_
    refine xn_then ?_
    refine w_reg ?_
    refine wl_mv (.tmp 9) (.int .u64 (x 4)) (fun _ => rfl) rfl rfl ?_
    refine wl_mv (.tmp 1) (.int .u64 10) (fun _ => rfl) e1 rfl ?_
    refine wl_bin (fun x y => do eqGuard .rem 22 (.tmp 33) (.tmp 34) x y; binOp .rem 22 x y) (.tmp 33) (.tmp 34) (.int .u64 (x 4)) (.int .u64 10) (.int .u64 (r 4)) (fun _ => rfl) rfl rfl (remu_run hr (by omega) _ _ _) rfl ?_
    refine wl_mv (.tmp 35) (.int .u64 (r 4)) (fun _ => rfl) rfl rfl ?_
    refine w_nil ?_
    refine xn_blk ?_
    refine xn_then ?_
    refine w_reg ?_
    refine wl_mv (.tmp 8) (.int .i64 (4)) (fun _ => rfl) e8 rfl ?_
    refine wl_bin (fun x y => do eqGuard .sub 3 (.tmp 12) (.const (.int .i64 (1))) x y; binOp .sub 3 x y) (.tmp 12) (.const (.int .i64 (1))) (.int .i64 (4)) (.int .i64 (1)) (.int .i64 (3)) (fun _ => rfl) rfl rfl (by kernel_rfl) rfl ?_
    refine wl_mv (.tmp 13) (.int .i64 (3)) (fun _ => rfl) rfl rfl ?_
    refine w_nil ?_
    exact xn_loop 4 (by decide) ⟨by decide, rfl, rfl, e1, e2, e4, e6, Q1, Q2, Q3, M⟩
  · obtain ⟨hx, hy, hr⟩ := hxy 5 (by decide)
    have hd := dg_bd n 5
    have hb := rb 5 (by decide)
    have hb1 := rb 6 (by decide)
    have hy6 := yb 6 (by decide)
    have hy7 := yb 7 (by decide)
    have hyi := yb 5 (by decide)
    refine w_seq ?_
    refine w_seq ?_
    refine w_reg ?_
    refine wl_mv (.tmp 8) (.int .i64 (5)) (fun _ => rfl) e8 rfl ?_
    refine wl_bin (fun x y => do eqGuard .geq 3 (.tmp 10) (.const (.int .i64 (0))) x y; binOp .geq 3 x y) (.tmp 10) (.const (.int .i64 (0))) (.int .i64 (5)) (.int .i64 (0)) (.bool true) (fun _ => rfl) rfl rfl (by kernel_rfl) rfl ?_
    refine w_nil ?_
    refine xn_then ?_
    refine w_condT rfl ?_
    refine w_skip ?_
    refine xn_then ?_
    refine w_seq ?_
    refine w_block ?_
    refine w_seq ?_
    refine w_reg ?_
    refine wl_mv (.tmp 7) (.int .u64 (r 6)) (fun _ => rfl) e7 rfl ?_
    refine wl_bin (fun x y => do eqGuard .shl 22 (.tmp 14) (.const (.int .u64 (32))) x y; binOp .shl 22 x y) (.tmp 14) (.const (.int .u64 (32))) (.int .u64 (r 6)) (.int .u64 (32)) (.int .u64 (r 6 * 4294967296)) (fun _ => rfl) rfl rfl (shlu_run rfl (by omega) (by omega) _ _ _) rfl ?_
    refine wl_load 24 (.tmp 2) (pt k1 0) (nv (n)) rfl e2 (run_row Q1 24 0 4 (nvli (n)) rfl Try.underlying24 rfl sz24) rfl ?_
    refine wl_mv (.tmp 8) (.int .i64 (5)) (fun _ => rfl) e8 rfl ?_
    refine wl_call 55 [(.tmp 16), (.tmp 17)] _ [nv (n), .int .i64 (5)] (.int .u64 (dg n 5)) rfl rfl (fun _ _ => by kernel_rfl) (half_any n 5 _ (by decide)) rfl ?_
    intro w21 hq
    replace Q1 := Q1.mo hq
    replace Q2 := Q2.mo hq
    replace Q3 := Q3.mo hq
    replace M := M.trans hq
    clear hq
    refine wl_bin (fun x y => do eqGuard .add 22 (.tmp 15) (.tmp 18) x y; binOp .add 22 x y) (.tmp 15) (.tmp 18) (.int .u64 (r 6 * 4294967296)) (.int .u64 (dg n 5)) (.int .u64 (x 5)) (fun _ => rfl) rfl rfl (addu_run hx (by omega) (by omega) _ _ _) rfl ?_
    refine wl_mv (.tmp 19) (.int .u64 (x 5)) (fun _ => rfl) rfl rfl ?_
    refine w_nil ?_
    refine xn_then ?_
    refine w_seq ?_
    refine w_any 13 [.inl (.int .i64 (5)), .inl (.int .i64 (2)), .inl (pt k3 2), .inl (.int .u64 0), .inl (.int .u64 (x 5)), .inl (.int .u64 10), .inl (.int .u64 (y 5)), .inl (.int .i64 (5)), .inl (.int .i64 (1)), .inl (.int .i64 (32)), .inl (.int .u64 (y 5 * 4294967296)), .inl (.int .u64 (y 5 * 4294967296)), .inl (pt k3 2)] [] (by kernel_rfl) (by kernel_rfl) (by kernel_rfl) (by kernel_rfl) rfl (by kernel_rfl) (by kernel_rfl) late_nil ?_ ?_ ?_
    · exact Ds.none rfl
    · refine ea_cons ?_ (ea_cons ?_ (ea_cons ?_ (ea_cons ?_ (ea_cons ?_ (ea_cons ?_ (ea_cons ?_ (ea_cons ?_ (ea_cons ?_ (ea_cons ?_ (ea_cons ?_ (ea_cons ?_ (ea_cons ?_ (ea_nil)))))))))))))
      · exact og_eq (.int .i64 (5)) rfl (fun f wf hq hd K hK => go_run rfl (wo_mv (.tmp 8) (.int .i64 (5)) (fun _ => rfl) e8 (hK _ (Mo.refl _))))
      · exact og_eq (.int .i64 (2)) rfl (fun f wf hq hd K hK => go_run rfl (wo_bin (fun x y => do eqGuard .quo 3 (.tmp 20) (.const (.int .i64 (2))) x y; binOp .quo 3 x y) (.tmp 20) (.const (.int .i64 (2))) (.int .i64 (5)) (.int .i64 (2)) (.int .i64 (2)) (fun _ => rfl) (hd 0 rfl) rfl (by kernel_rfl) (hK _ (Mo.refl _))))
      · exact og_eq (pt k3 2) rfl (fun f wf hq hd K hK => go_run rfl (wo_bin (fun x y => Instr.indexAt 24 x y) (.tmp 6) (.tmp 21) (pt k3 0) (.int .i64 (2)) (pt k3 2) (fun _ => rfl) e6 (hd 1 rfl) (by kernel_rfl) (hK _ (Mo.refl _))))
      · exact og_eq (.int .u64 0) rfl (fun f wf hq hd K hK => have Q3 := Q3.mo hq; go_run rfl (wo_load 22 (.tmp 22) (pt k3 2) (.int .u64 0) rfl (hd 2 rfl) (run_one Q3 22 2 rfl Try.underlying22 rfl) (hK _ (Mo.refl _))))
      · exact og_eq (.int .u64 (x 5)) rfl (fun f wf hq hd K hK => go_run rfl (wo_mv (.tmp 9) (.int .u64 (x 5)) (fun _ => rfl) rfl (hK _ (Mo.refl _))))
      · exact og_eq (.int .u64 10) rfl (fun f wf hq hd K hK => go_run rfl (wo_mv (.tmp 1) (.int .u64 10) (fun _ => rfl) e1 (hK _ (Mo.refl _))))
      · exact og_eq (.int .u64 (y 5)) rfl (fun f wf hq hd K hK => go_run rfl (wo_bin (fun x y => do eqGuard .quo 22 (.tmp 24) (.tmp 25) x y; binOp .quo 22 x y) (.tmp 24) (.tmp 25) (.int .u64 (x 5)) (.int .u64 10) (.int .u64 (y 5)) (fun _ => rfl) (hd 4 rfl) (hd 5 rfl) (quou_run hy (by omega) (by omega) _ _ _) (hK _ (Mo.refl _))))
      · exact og_eq (.int .i64 (5)) rfl (fun f wf hq hd K hK => go_run rfl (wo_mv (.tmp 8) (.int .i64 (5)) (fun _ => rfl) e8 (hK _ (Mo.refl _))))
      · exact og_eq (.int .i64 (1)) rfl (fun f wf hq hd K hK => go_run rfl (wo_bin (fun x y => do eqGuard .rem 3 (.tmp 27) (.const (.int .i64 (2))) x y; binOp .rem 3 x y) (.tmp 27) (.const (.int .i64 (2))) (.int .i64 (5)) (.int .i64 (2)) (.int .i64 (1)) (fun _ => rfl) (hd 7 rfl) rfl (by kernel_rfl) (hK _ (Mo.refl _))))
      · exact og_eq (.int .i64 (32)) rfl (fun f wf hq hd K hK => go_run rfl (wo_bin (fun x y => do eqGuard .mul 3 (.tmp 28) (.const (.int .i64 (32))) x y; binOp .mul 3 x y) (.tmp 28) (.const (.int .i64 (32))) (.int .i64 (1)) (.int .i64 (32)) (.int .i64 (32)) (fun _ => rfl) (hd 8 rfl) rfl (by kernel_rfl) (hK _ (Mo.refl _))))
      · exact og_eq (.int .u64 (y 5 * 4294967296)) rfl (fun f wf hq hd K hK => go_run rfl (wo_bin (fun x y => do eqGuard .shl 22 (.tmp 26) (.tmp 29) x y; binOp .shl 22 x y) (.tmp 26) (.tmp 29) (.int .u64 (y 5)) (.int .i64 (32)) (.int .u64 (y 5 * 4294967296)) (fun _ => rfl) (hd 6 rfl) (hd 9 rfl) (shli_run rfl (by omega) (by omega) _ _ _) (hK _ (Mo.refl _))))
      · exact og_eq (.int .u64 (y 5 * 4294967296)) rfl (fun f wf hq hd K hK => go_run rfl (wo_bin (fun x y => do eqGuard .add 22 (.tmp 23) (.tmp 30) x y; binOp .add 22 x y) (.tmp 23) (.tmp 30) (.int .u64 0) (.int .u64 (y 5 * 4294967296)) (.int .u64 (y 5 * 4294967296)) (fun _ => rfl) (hd 3 rfl) (hd 10 rfl) (addu_run (by omega) (by omega) (by omega) _ _ _) (hK _ (Mo.refl _))))
      · exact og_eq (pt k3 2) rfl (fun f wf hq hd K hK => go_run rfl (wo_bin (fun x y => Instr.indexAt 24 x y) (.tmp 6) (.tmp 21) (pt k3 0) (.int .i64 (2)) (pt k3 2) (fun _ => rfl) e6 (hd 1 rfl) (by kernel_rfl) (hK _ (Mo.refl _))))
    intro kf22 w22 hq hR hne
    replace Q1 := Q1.mo hq
    replace Q2 := Q2.mo hq
    replace Q3 := Q3.mo hq
    replace M := M.trans hq
    clear hq hR hne
    refine wl_st1 22 (.tmp 32) (.tmp 31) k3 2 (.int .u64 (y 5 * 4294967296)) [.int .u64 0, .int .u64 0, .int .u64 0, .int .u64 (y 7 * 4294967296 + y 6)] [.int .u64 0, .int .u64 0, .int .u64 (y 5 * 4294967296), .int .u64 (y 7 * 4294967296 + y 6)] Q3 rfl rfl rfl rfl rfl sz22b rfl rfl rfl rfl ?_
    intro w23 hS Qn
    replace Q3 := Qn
    clear Qn
    replace Q1 := hS.other _ _ ne_k1_k3 Q1
    replace Q2 := hS.other _ _ ne_k2_k3 Q2
    replace M := hS.mo _ N_k3 M
    clear hS
    refine w_nil ?_
    refine xn_then ?_
    refine w_reg ?_
    refine wl_mv (.tmp 9) (.int .u64 (x 5)) (fun _ => rfl) rfl rfl ?_
    refine wl_mv (.tmp 1) (.int .u64 10) (fun _ => rfl) e1 rfl ?_
    refine wl_bin (fun x y => do eqGuard .rem 22 (.tmp 33) (.tmp 34) x y; binOp .rem 22 x y) (.tmp 33) (.tmp 34) (.int .u64 (x 5)) (.int .u64 10) (.int .u64 (r 5)) (fun _ => rfl) rfl rfl (remu_run hr (by omega) _ _ _) rfl ?_
    refine wl_mv (.tmp 35) (.int .u64 (r 5)) (fun _ => rfl) rfl rfl ?_
    refine w_nil ?_
    refine xn_blk ?_
    refine xn_then ?_
    refine w_reg ?_
    refine wl_mv (.tmp 8) (.int .i64 (5)) (fun _ => rfl) e8 rfl ?_
    refine wl_bin (fun x y => do eqGuard .sub 3 (.tmp 12) (.const (.int .i64 (1))) x y; binOp .sub 3 x y) (.tmp 12) (.const (.int .i64 (1))) (.int .i64 (5)) (.int .i64 (1)) (.int .i64 (4)) (fun _ => rfl) rfl rfl (by kernel_rfl) rfl ?_
    refine wl_mv (.tmp 13) (.int .i64 (4)) (fun _ => rfl) rfl rfl ?_
    refine w_nil ?_
    exact xn_loop 5 (by decide) ⟨by decide, rfl, rfl, e1, e2, e4, e6, Q1, Q2, Q3, M⟩
  · obtain ⟨hx, hy, hr⟩ := hxy 6 (by decide)
    have hd := dg_bd n 6
    have hb := rb 6 (by decide)
    have hb1 := rb 7 (by decide)
    have hy7 := yb 7 (by decide)
    have hyi := yb 6 (by decide)
    refine w_seq ?_
    refine w_seq ?_
    refine w_reg ?_
    refine wl_mv (.tmp 8) (.int .i64 (6)) (fun _ => rfl) e8 rfl ?_
    refine wl_bin (fun x y => do eqGuard .geq 3 (.tmp 10) (.const (.int .i64 (0))) x y; binOp .geq 3 x y) (.tmp 10) (.const (.int .i64 (0))) (.int .i64 (6)) (.int .i64 (0)) (.bool true) (fun _ => rfl) rfl rfl (by kernel_rfl) rfl ?_
    refine w_nil ?_
    refine xn_then ?_
    refine w_condT rfl ?_
    refine w_skip ?_
    refine xn_then ?_
    refine w_seq ?_
    refine w_block ?_
    refine w_seq ?_
    refine w_reg ?_
    refine wl_mv (.tmp 7) (.int .u64 (r 7)) (fun _ => rfl) e7 rfl ?_
    refine wl_bin (fun x y => do eqGuard .shl 22 (.tmp 14) (.const (.int .u64 (32))) x y; binOp .shl 22 x y) (.tmp 14) (.const (.int .u64 (32))) (.int .u64 (r 7)) (.int .u64 (32)) (.int .u64 (r 7 * 4294967296)) (fun _ => rfl) rfl rfl (shlu_run rfl (by omega) (by omega) _ _ _) rfl ?_
    refine wl_load 24 (.tmp 2) (pt k1 0) (nv (n)) rfl e2 (run_row Q1 24 0 4 (nvli (n)) rfl Try.underlying24 rfl sz24) rfl ?_
    refine wl_mv (.tmp 8) (.int .i64 (6)) (fun _ => rfl) e8 rfl ?_
    refine wl_call 55 [(.tmp 16), (.tmp 17)] _ [nv (n), .int .i64 (6)] (.int .u64 (dg n 6)) rfl rfl (fun _ _ => by kernel_rfl) (half_any n 6 _ (by decide)) rfl ?_
    intro w21 hq
    replace Q1 := Q1.mo hq
    replace Q2 := Q2.mo hq
    replace Q3 := Q3.mo hq
    replace M := M.trans hq
    clear hq
    refine wl_bin (fun x y => do eqGuard .add 22 (.tmp 15) (.tmp 18) x y; binOp .add 22 x y) (.tmp 15) (.tmp 18) (.int .u64 (r 7 * 4294967296)) (.int .u64 (dg n 6)) (.int .u64 (x 6)) (fun _ => rfl) rfl rfl (addu_run hx (by omega) (by omega) _ _ _) rfl ?_
    refine wl_mv (.tmp 19) (.int .u64 (x 6)) (fun _ => rfl) rfl rfl ?_
    refine w_nil ?_
    refine xn_then ?_
    refine w_seq ?_
    refine w_any 13 [.inl (.int .i64 (6)), .inl (.int .i64 (3)), .inl (pt k3 3), .inl (.int .u64 (y 7 * 4294967296)), .inl (.int .u64 (x 6)), .inl (.int .u64 10), .inl (.int .u64 (y 6)), .inl (.int .i64 (6)), .inl (.int .i64 (0)), .inl (.int .i64 (0)), .inl (.int .u64 (y 6)), .inl (.int .u64 (y 7 * 4294967296 + y 6)), .inl (pt k3 3)] [] (by kernel_rfl) (by kernel_rfl) (by kernel_rfl) (by kernel_rfl) rfl (by kernel_rfl) (by kernel_rfl) late_nil ?_ ?_ ?_
    · exact Ds.none rfl
    · refine ea_cons ?_ (ea_cons ?_ (ea_cons ?_ (ea_cons ?_ (ea_cons ?_ (ea_cons ?_ (ea_cons ?_ (ea_cons ?_ (ea_cons ?_ (ea_cons ?_ (ea_cons ?_ (ea_cons ?_ (ea_cons ?_ (ea_nil)))))))))))))
      · exact og_eq (.int .i64 (6)) rfl (fun f wf hq hd K hK => go_run rfl (wo_mv (.tmp 8) (.int .i64 (6)) (fun _ => rfl) e8 (hK _ (Mo.refl _))))
      · exact og_eq (.int .i64 (3)) rfl (fun f wf hq hd K hK => go_run rfl (wo_bin (fun x y => do eqGuard .quo 3 (.tmp 20) (.const (.int .i64 (2))) x y; binOp .quo 3 x y) (.tmp 20) (.const (.int .i64 (2))) (.int .i64 (6)) (.int .i64 (2)) (.int .i64 (3)) (fun _ => rfl) (hd 0 rfl) rfl (by kernel_rfl) (hK _ (Mo.refl _))))
      · exact og_eq (pt k3 3) rfl (fun f wf hq hd K hK => go_run rfl (wo_bin (fun x y => Instr.indexAt 24 x y) (.tmp 6) (.tmp 21) (pt k3 0) (.int .i64 (3)) (pt k3 3) (fun _ => rfl) e6 (hd 1 rfl) (by kernel_rfl) (hK _ (Mo.refl _))))
      · exact og_eq (.int .u64 (y 7 * 4294967296)) rfl (fun f wf hq hd K hK => have Q3 := Q3.mo hq; go_run rfl (wo_load 22 (.tmp 22) (pt k3 3) (.int .u64 (y 7 * 4294967296)) rfl (hd 2 rfl) (run_one Q3 22 3 rfl Try.underlying22 rfl) (hK _ (Mo.refl _))))
      · exact og_eq (.int .u64 (x 6)) rfl (fun f wf hq hd K hK => go_run rfl (wo_mv (.tmp 9) (.int .u64 (x 6)) (fun _ => rfl) rfl (hK _ (Mo.refl _))))
      · exact og_eq (.int .u64 10) rfl (fun f wf hq hd K hK => go_run rfl (wo_mv (.tmp 1) (.int .u64 10) (fun _ => rfl) e1 (hK _ (Mo.refl _))))
      · exact og_eq (.int .u64 (y 6)) rfl (fun f wf hq hd K hK => go_run rfl (wo_bin (fun x y => do eqGuard .quo 22 (.tmp 24) (.tmp 25) x y; binOp .quo 22 x y) (.tmp 24) (.tmp 25) (.int .u64 (x 6)) (.int .u64 10) (.int .u64 (y 6)) (fun _ => rfl) (hd 4 rfl) (hd 5 rfl) (quou_run hy (by omega) (by omega) _ _ _) (hK _ (Mo.refl _))))
      · exact og_eq (.int .i64 (6)) rfl (fun f wf hq hd K hK => go_run rfl (wo_mv (.tmp 8) (.int .i64 (6)) (fun _ => rfl) e8 (hK _ (Mo.refl _))))
      · exact og_eq (.int .i64 (0)) rfl (fun f wf hq hd K hK => go_run rfl (wo_bin (fun x y => do eqGuard .rem 3 (.tmp 27) (.const (.int .i64 (2))) x y; binOp .rem 3 x y) (.tmp 27) (.const (.int .i64 (2))) (.int .i64 (6)) (.int .i64 (2)) (.int .i64 (0)) (fun _ => rfl) (hd 7 rfl) rfl (by kernel_rfl) (hK _ (Mo.refl _))))
      · exact og_eq (.int .i64 (0)) rfl (fun f wf hq hd K hK => go_run rfl (wo_bin (fun x y => do eqGuard .mul 3 (.tmp 28) (.const (.int .i64 (32))) x y; binOp .mul 3 x y) (.tmp 28) (.const (.int .i64 (32))) (.int .i64 (0)) (.int .i64 (32)) (.int .i64 (0)) (fun _ => rfl) (hd 8 rfl) rfl (by kernel_rfl) (hK _ (Mo.refl _))))
      · exact og_eq (.int .u64 (y 6)) rfl (fun f wf hq hd K hK => go_run rfl (wo_bin (fun x y => do eqGuard .shl 22 (.tmp 26) (.tmp 29) x y; binOp .shl 22 x y) (.tmp 26) (.tmp 29) (.int .u64 (y 6)) (.int .i64 (0)) (.int .u64 (y 6)) (fun _ => rfl) (hd 6 rfl) (hd 9 rfl) (shl0_run (by omega) (by omega) _ _ _) (hK _ (Mo.refl _))))
      · exact og_eq (.int .u64 (y 7 * 4294967296 + y 6)) rfl (fun f wf hq hd K hK => go_run rfl (wo_bin (fun x y => do eqGuard .add 22 (.tmp 23) (.tmp 30) x y; binOp .add 22 x y) (.tmp 23) (.tmp 30) (.int .u64 (y 7 * 4294967296)) (.int .u64 (y 6)) (.int .u64 (y 7 * 4294967296 + y 6)) (fun _ => rfl) (hd 3 rfl) (hd 10 rfl) (addu_run (by omega) (by omega) (by omega) _ _ _) (hK _ (Mo.refl _))))
      · exact og_eq (pt k3 3) rfl (fun f wf hq hd K hK => go_run rfl (wo_bin (fun x y => Instr.indexAt 24 x y) (.tmp 6) (.tmp 21) (pt k3 0) (.int .i64 (3)) (pt k3 3) (fun _ => rfl) e6 (hd 1 rfl) (by kernel_rfl) (hK _ (Mo.refl _))))
    intro kf22 w22 hq hR hne
    replace Q1 := Q1.mo hq
    replace Q2 := Q2.mo hq
    replace Q3 := Q3.mo hq
    replace M := M.trans hq
    clear hq hR hne
    refine wl_st1 22 (.tmp 32) (.tmp 31) k3 3 (.int .u64 (y 7 * 4294967296 + y 6)) [.int .u64 0, .int .u64 0, .int .u64 0, .int .u64 (y 7 * 4294967296)] [.int .u64 0, .int .u64 0, .int .u64 0, .int .u64 (y 7 * 4294967296 + y 6)] Q3 rfl rfl rfl rfl rfl sz22b rfl rfl rfl rfl ?_
    intro w23 hS Qn
    replace Q3 := Qn
    clear Qn
    replace Q1 := hS.other _ _ ne_k1_k3 Q1
    replace Q2 := hS.other _ _ ne_k2_k3 Q2
    replace M := hS.mo _ N_k3 M
    clear hS
    refine w_nil ?_
    refine xn_then ?_
    refine w_reg ?_
    refine wl_mv (.tmp 9) (.int .u64 (x 6)) (fun _ => rfl) rfl rfl ?_
    refine wl_mv (.tmp 1) (.int .u64 10) (fun _ => rfl) e1 rfl ?_
    refine wl_bin (fun x y => do eqGuard .rem 22 (.tmp 33) (.tmp 34) x y; binOp .rem 22 x y) (.tmp 33) (.tmp 34) (.int .u64 (x 6)) (.int .u64 10) (.int .u64 (r 6)) (fun _ => rfl) rfl rfl (remu_run hr (by omega) _ _ _) rfl ?_
    refine wl_mv (.tmp 35) (.int .u64 (r 6)) (fun _ => rfl) rfl rfl ?_
    refine w_nil ?_
    refine xn_blk ?_
    refine xn_then ?_
    refine w_reg ?_
    refine wl_mv (.tmp 8) (.int .i64 (6)) (fun _ => rfl) e8 rfl ?_
    refine wl_bin (fun x y => do eqGuard .sub 3 (.tmp 12) (.const (.int .i64 (1))) x y; binOp .sub 3 x y) (.tmp 12) (.const (.int .i64 (1))) (.int .i64 (6)) (.int .i64 (1)) (.int .i64 (5)) (fun _ => rfl) rfl rfl (by kernel_rfl) rfl ?_
    refine wl_mv (.tmp 13) (.int .i64 (5)) (fun _ => rfl) rfl rfl ?_
    refine w_nil ?_
    exact xn_loop 6 (by decide) ⟨by decide, rfl, rfl, e1, e2, e4, e6, Q1, Q2, Q3, M⟩
  · obtain ⟨hx, hy, hr⟩ := hxy 7 (by decide)
    have hd := dg_bd n 7
    have hb := rb 7 (by decide)
    have hb1 := rb 8 (by decide)
    have hyi := yb 7 (by decide)
    refine w_seq ?_
    refine w_seq ?_
    refine w_reg ?_
    refine wl_mv (.tmp 8) (.int .i64 (7)) (fun _ => rfl) e8 rfl ?_
    refine wl_bin (fun x y => do eqGuard .geq 3 (.tmp 10) (.const (.int .i64 (0))) x y; binOp .geq 3 x y) (.tmp 10) (.const (.int .i64 (0))) (.int .i64 (7)) (.int .i64 (0)) (.bool true) (fun _ => rfl) rfl rfl (by kernel_rfl) rfl ?_
    refine w_nil ?_
    refine xn_then ?_
    refine w_condT rfl ?_
    refine w_skip ?_
    refine xn_then ?_
    refine w_seq ?_
    refine w_block ?_
    refine w_seq ?_
    refine w_reg ?_
    refine wl_mv (.tmp 7) (.int .u64 (r 8)) (fun _ => rfl) e7 rfl ?_
    refine wl_bin (fun x y => do eqGuard .shl 22 (.tmp 14) (.const (.int .u64 (32))) x y; binOp .shl 22 x y) (.tmp 14) (.const (.int .u64 (32))) (.int .u64 (r 8)) (.int .u64 (32)) (.int .u64 (r 8 * 4294967296)) (fun _ => rfl) rfl rfl (shlu_run rfl (by omega) (by omega) _ _ _) rfl ?_
    refine wl_load 24 (.tmp 2) (pt k1 0) (nv (n)) rfl e2 (run_row Q1 24 0 4 (nvli (n)) rfl Try.underlying24 rfl sz24) rfl ?_
    refine wl_mv (.tmp 8) (.int .i64 (7)) (fun _ => rfl) e8 rfl ?_
    refine wl_call 55 [(.tmp 16), (.tmp 17)] _ [nv (n), .int .i64 (7)] (.int .u64 (dg n 7)) rfl rfl (fun _ _ => by kernel_rfl) (half_any n 7 _ (by decide)) rfl ?_
    intro w21 hq
    replace Q1 := Q1.mo hq
    replace Q2 := Q2.mo hq
    replace Q3 := Q3.mo hq
    replace M := M.trans hq
    clear hq
    refine wl_bin (fun x y => do eqGuard .add 22 (.tmp 15) (.tmp 18) x y; binOp .add 22 x y) (.tmp 15) (.tmp 18) (.int .u64 (r 8 * 4294967296)) (.int .u64 (dg n 7)) (.int .u64 (x 7)) (fun _ => rfl) rfl rfl (addu_run hx (by omega) (by omega) _ _ _) rfl ?_
    refine wl_mv (.tmp 19) (.int .u64 (x 7)) (fun _ => rfl) rfl rfl ?_
    refine w_nil ?_
    refine xn_then ?_
    refine w_seq ?_
    refine w_any 13 [.inl (.int .i64 (7)), .inl (.int .i64 (3)), .inl (pt k3 3), .inl (.int .u64 0), .inl (.int .u64 (x 7)), .inl (.int .u64 10), .inl (.int .u64 (y 7)), .inl (.int .i64 (7)), .inl (.int .i64 (1)), .inl (.int .i64 (32)), .inl (.int .u64 (y 7 * 4294967296)), .inl (.int .u64 (y 7 * 4294967296)), .inl (pt k3 3)] [] (by kernel_rfl) (by kernel_rfl) (by kernel_rfl) (by kernel_rfl) rfl (by kernel_rfl) (by kernel_rfl) late_nil ?_ ?_ ?_
    · exact Ds.none rfl
    · refine ea_cons ?_ (ea_cons ?_ (ea_cons ?_ (ea_cons ?_ (ea_cons ?_ (ea_cons ?_ (ea_cons ?_ (ea_cons ?_ (ea_cons ?_ (ea_cons ?_ (ea_cons ?_ (ea_cons ?_ (ea_cons ?_ (ea_nil)))))))))))))
      · exact og_eq (.int .i64 (7)) rfl (fun f wf hq hd K hK => go_run rfl (wo_mv (.tmp 8) (.int .i64 (7)) (fun _ => rfl) e8 (hK _ (Mo.refl _))))
      · exact og_eq (.int .i64 (3)) rfl (fun f wf hq hd K hK => go_run rfl (wo_bin (fun x y => do eqGuard .quo 3 (.tmp 20) (.const (.int .i64 (2))) x y; binOp .quo 3 x y) (.tmp 20) (.const (.int .i64 (2))) (.int .i64 (7)) (.int .i64 (2)) (.int .i64 (3)) (fun _ => rfl) (hd 0 rfl) rfl (by kernel_rfl) (hK _ (Mo.refl _))))
      · exact og_eq (pt k3 3) rfl (fun f wf hq hd K hK => go_run rfl (wo_bin (fun x y => Instr.indexAt 24 x y) (.tmp 6) (.tmp 21) (pt k3 0) (.int .i64 (3)) (pt k3 3) (fun _ => rfl) e6 (hd 1 rfl) (by kernel_rfl) (hK _ (Mo.refl _))))
      · exact og_eq (.int .u64 0) rfl (fun f wf hq hd K hK => have Q3 := Q3.mo hq; go_run rfl (wo_load 22 (.tmp 22) (pt k3 3) (.int .u64 0) rfl (hd 2 rfl) (run_one Q3 22 3 rfl Try.underlying22 rfl) (hK _ (Mo.refl _))))
      · exact og_eq (.int .u64 (x 7)) rfl (fun f wf hq hd K hK => go_run rfl (wo_mv (.tmp 9) (.int .u64 (x 7)) (fun _ => rfl) rfl (hK _ (Mo.refl _))))
      · exact og_eq (.int .u64 10) rfl (fun f wf hq hd K hK => go_run rfl (wo_mv (.tmp 1) (.int .u64 10) (fun _ => rfl) e1 (hK _ (Mo.refl _))))
      · exact og_eq (.int .u64 (y 7)) rfl (fun f wf hq hd K hK => go_run rfl (wo_bin (fun x y => do eqGuard .quo 22 (.tmp 24) (.tmp 25) x y; binOp .quo 22 x y) (.tmp 24) (.tmp 25) (.int .u64 (x 7)) (.int .u64 10) (.int .u64 (y 7)) (fun _ => rfl) (hd 4 rfl) (hd 5 rfl) (quou_run hy (by omega) (by omega) _ _ _) (hK _ (Mo.refl _))))
      · exact og_eq (.int .i64 (7)) rfl (fun f wf hq hd K hK => go_run rfl (wo_mv (.tmp 8) (.int .i64 (7)) (fun _ => rfl) e8 (hK _ (Mo.refl _))))
      · exact og_eq (.int .i64 (1)) rfl (fun f wf hq hd K hK => go_run rfl (wo_bin (fun x y => do eqGuard .rem 3 (.tmp 27) (.const (.int .i64 (2))) x y; binOp .rem 3 x y) (.tmp 27) (.const (.int .i64 (2))) (.int .i64 (7)) (.int .i64 (2)) (.int .i64 (1)) (fun _ => rfl) (hd 7 rfl) rfl (by kernel_rfl) (hK _ (Mo.refl _))))
      · exact og_eq (.int .i64 (32)) rfl (fun f wf hq hd K hK => go_run rfl (wo_bin (fun x y => do eqGuard .mul 3 (.tmp 28) (.const (.int .i64 (32))) x y; binOp .mul 3 x y) (.tmp 28) (.const (.int .i64 (32))) (.int .i64 (1)) (.int .i64 (32)) (.int .i64 (32)) (fun _ => rfl) (hd 8 rfl) rfl (by kernel_rfl) (hK _ (Mo.refl _))))
      · exact og_eq (.int .u64 (y 7 * 4294967296)) rfl (fun f wf hq hd K hK => go_run rfl (wo_bin (fun x y => do eqGuard .shl 22 (.tmp 26) (.tmp 29) x y; binOp .shl 22 x y) (.tmp 26) (.tmp 29) (.int .u64 (y 7)) (.int .i64 (32)) (.int .u64 (y 7 * 4294967296)) (fun _ => rfl) (hd 6 rfl) (hd 9 rfl) (shli_run rfl (by omega) (by omega) _ _ _) (hK _ (Mo.refl _))))
      · exact og_eq (.int .u64 (y 7 * 4294967296)) rfl (fun f wf hq hd K hK => go_run rfl (wo_bin (fun x y => do eqGuard .add 22 (.tmp 23) (.tmp 30) x y; binOp .add 22 x y) (.tmp 23) (.tmp 30) (.int .u64 0) (.int .u64 (y 7 * 4294967296)) (.int .u64 (y 7 * 4294967296)) (fun _ => rfl) (hd 3 rfl) (hd 10 rfl) (addu_run (by omega) (by omega) (by omega) _ _ _) (hK _ (Mo.refl _))))
      · exact og_eq (pt k3 3) rfl (fun f wf hq hd K hK => go_run rfl (wo_bin (fun x y => Instr.indexAt 24 x y) (.tmp 6) (.tmp 21) (pt k3 0) (.int .i64 (3)) (pt k3 3) (fun _ => rfl) e6 (hd 1 rfl) (by kernel_rfl) (hK _ (Mo.refl _))))
    intro kf22 w22 hq hR hne
    replace Q1 := Q1.mo hq
    replace Q2 := Q2.mo hq
    replace Q3 := Q3.mo hq
    replace M := M.trans hq
    clear hq hR hne
    refine wl_st1 22 (.tmp 32) (.tmp 31) k3 3 (.int .u64 (y 7 * 4294967296)) [.int .u64 0, .int .u64 0, .int .u64 0, .int .u64 0] [.int .u64 0, .int .u64 0, .int .u64 0, .int .u64 (y 7 * 4294967296)] Q3 rfl rfl rfl rfl rfl sz22b rfl rfl rfl rfl ?_
    intro w23 hS Qn
    replace Q3 := Qn
    clear Qn
    replace Q1 := hS.other _ _ ne_k1_k3 Q1
    replace Q2 := hS.other _ _ ne_k2_k3 Q2
    replace M := hS.mo _ N_k3 M
    clear hS
    refine w_nil ?_
    refine xn_then ?_
    refine w_reg ?_
    refine wl_mv (.tmp 9) (.int .u64 (x 7)) (fun _ => rfl) rfl rfl ?_
    refine wl_mv (.tmp 1) (.int .u64 10) (fun _ => rfl) e1 rfl ?_
    refine wl_bin (fun x y => do eqGuard .rem 22 (.tmp 33) (.tmp 34) x y; binOp .rem 22 x y) (.tmp 33) (.tmp 34) (.int .u64 (x 7)) (.int .u64 10) (.int .u64 (r 7)) (fun _ => rfl) rfl rfl (remu_run hr (by omega) _ _ _) rfl ?_
    refine wl_mv (.tmp 35) (.int .u64 (r 7)) (fun _ => rfl) rfl rfl ?_
    refine w_nil ?_
    refine xn_blk ?_
    refine xn_then ?_
    refine w_reg ?_
    refine wl_mv (.tmp 8) (.int .i64 (7)) (fun _ => rfl) e8 rfl ?_
    refine wl_bin (fun x y => do eqGuard .sub 3 (.tmp 12) (.const (.int .i64 (1))) x y; binOp .sub 3 x y) (.tmp 12) (.const (.int .i64 (1))) (.int .i64 (7)) (.int .i64 (1)) (.int .i64 (6)) (fun _ => rfl) rfl rfl (by kernel_rfl) rfl ?_
    refine wl_mv (.tmp 13) (.int .i64 (6)) (fun _ => rfl) rfl rfl ?_
    refine w_nil ?_
    exact xn_loop 7 (by decide) ⟨by decide, rfl, rfl, e1, e2, e4, e6, Q1, Q2, Q3, M⟩
  · omega
/-- The rests, from the highest digit on. -/
def srd (n : Int) : Nat → Int
  | 0 => 0
  | j + 1 => (srd n j * 4294967296 + dg n (7 - j)) % 10
theorem srd_bd (n : Int) (j : Nat) : 0 ≤ srd n j ∧ srd n j < 10 := by
  cases j with
  | zero => show 0 ≤ (0 : Int) ∧ (0 : Int) < 10; decide
  | succ j => unfold srd; omega
theorem small_n (n : Int) (w : World) (h0 : 0 ≤ n) (h : n < MM) : Calls Try.prog 71 #[nv n, .int .u64 10] w fun e w' => e = .returned (.tuple #[nv (n / 10), .int .u64 (n % 10)]) ∧ Mo w w' := by
  have key := small_w n (fun i => srd n (7 - i) * 4294967296 + dg n i) (fun i => (srd n (7 - i) * 4294967296 + dg n i) / 10) (fun i => srd n (8 - i)) w rfl (fun i hi => ⟨by
      show srd n (8 - (i + 1)) * 4294967296 + dg n i = _
      rw [show 8 - (i + 1) = 7 - i by omega], rfl, by
      show _ = srd n (8 - i)
      rw [show 8 - i = (7 - i) + 1 by omega]
      show _ = (srd n (7 - i) * 4294967296 + dg n (7 - (7 - i))) % 10
      rw [show 7 - (7 - i) = i by omega]⟩) (fun i _ => srd_bd n _) (fun i _ => by
      have a := srd_bd n (7 - i); have b := dg_bd n i
      show 0 ≤ (srd n (7 - i) * 4294967296 + dg n i) / 10 ∧ (srd n (7 - i) * 4294967296 + dg n i) / 10 < 4294967296
      omega)
  have e0 : n = ((((((((dg n 7 * 4294967296 + dg n 6) * 4294967296 + dg n 5) * 4294967296 + dg n 4) * 4294967296 + dg n 3) * 4294967296 + dg n 2) * 4294967296 + dg n 1) * 4294967296 + dg n 0)) := by
    unfold dg MM at *; omega
  have b7 := dg_bd n 7
  have b6 := dg_bd n 6
  have b5 := dg_bd n 5
  have b4 := dg_bd n 4
  have b3 := dg_bd n 3
  have b2 := dg_bd n 2
  have b1 := dg_bd n 1
  have b0 := dg_bd n 0
  have s1 : srd n 1 = (0 * 4294967296 + dg n 7) % 10 := rfl
  have s2 : srd n 2 = (srd n 1 * 4294967296 + dg n 6) % 10 := rfl
  have s3 : srd n 3 = (srd n 2 * 4294967296 + dg n 5) % 10 := rfl
  have s4 : srd n 4 = (srd n 3 * 4294967296 + dg n 4) % 10 := rfl
  have s5 : srd n 5 = (srd n 4 * 4294967296 + dg n 3) % 10 := rfl
  have s6 : srd n 6 = (srd n 5 * 4294967296 + dg n 2) % 10 := rfl
  have s7 : srd n 7 = (srd n 6 * 4294967296 + dg n 1) % 10 := rfl
  have s8 : srd n 8 = (srd n 7 * 4294967296 + dg n 0) % 10 := rfl
  have z0 : srd n 0 = 0 := rfl
  have hQ : Value.agg (qc (fun i => (srd n (7 - i) * 4294967296 + dg n i) / 10) 0).toArray = nv (n / 10) ∧ srd n 8 = n % 10 := by
    show Value.agg #[.int .u64 ((srd n 6 * 4294967296 + dg n 1) / 10 * 4294967296 + (srd n 7 * 4294967296 + dg n 0) / 10), .int .u64 ((srd n 4 * 4294967296 + dg n 3) / 10 * 4294967296 + (srd n 5 * 4294967296 + dg n 2) / 10), .int .u64 ((srd n 2 * 4294967296 + dg n 5) / 10 * 4294967296 + (srd n 3 * 4294967296 + dg n 4) / 10), .int .u64 ((srd n 0 * 4294967296 + dg n 7) / 10 * 4294967296 + (srd n 1 * 4294967296 + dg n 6) / 10)] = nv (n / 10) ∧ srd n 8 = n % 10
    rw [z0]
    generalize srd n 1 = c1 at *
    generalize srd n 2 = c2 at *
    generalize srd n 3 = c3 at *
    generalize srd n 4 = c4 at *
    generalize srd n 5 = c5 at *
    generalize srd n 6 = c6 at *
    generalize srd n 7 = c7 at *
    generalize srd n 8 = c8 at *
    generalize dg n 7 = d7 at *
    generalize dg n 6 = d6 at *
    generalize dg n 5 = d5 at *
    generalize dg n 4 = d4 at *
    generalize dg n 3 = d3 at *
    generalize dg n 2 = d2 at *
    generalize dg n 1 = d1 at *
    generalize dg n 0 = d0 at *
    obtain ⟨y7, q7⟩ : ∃ y, (0 * 4294967296 + d7) / 10 = y := ⟨_, rfl⟩
    obtain ⟨y6, q6⟩ : ∃ y, (c1 * 4294967296 + d6) / 10 = y := ⟨_, rfl⟩
    obtain ⟨y5, q5⟩ : ∃ y, (c2 * 4294967296 + d5) / 10 = y := ⟨_, rfl⟩
    obtain ⟨y4, q4⟩ : ∃ y, (c3 * 4294967296 + d4) / 10 = y := ⟨_, rfl⟩
    obtain ⟨y3, q3⟩ : ∃ y, (c4 * 4294967296 + d3) / 10 = y := ⟨_, rfl⟩
    obtain ⟨y2, q2⟩ : ∃ y, (c5 * 4294967296 + d2) / 10 = y := ⟨_, rfl⟩
    obtain ⟨y1, q1⟩ : ∃ y, (c6 * 4294967296 + d1) / 10 = y := ⟨_, rfl⟩
    obtain ⟨y0, q0⟩ : ∃ y, (c7 * 4294967296 + d0) / 10 = y := ⟨_, rfl⟩
    rw [q7, q6, q5, q4, q3, q2, q1, q0]
    have t7 : d7 = 10 * y7 + c1 ∧ 0 ≤ y7 ∧ y7 < 4294967296 ∧ 0 ≤ c1 ∧ c1 < 10 := by omega
    have t6 : c1 * 4294967296 + d6 = 10 * y6 + c2 ∧ 0 ≤ y6 ∧ y6 < 4294967296 ∧ 0 ≤ c2 ∧ c2 < 10 := by omega
    have t5 : c2 * 4294967296 + d5 = 10 * y5 + c3 ∧ 0 ≤ y5 ∧ y5 < 4294967296 ∧ 0 ≤ c3 ∧ c3 < 10 := by omega
    have t4 : c3 * 4294967296 + d4 = 10 * y4 + c4 ∧ 0 ≤ y4 ∧ y4 < 4294967296 ∧ 0 ≤ c4 ∧ c4 < 10 := by omega
    have t3 : c4 * 4294967296 + d3 = 10 * y3 + c5 ∧ 0 ≤ y3 ∧ y3 < 4294967296 ∧ 0 ≤ c5 ∧ c5 < 10 := by omega
    have t2 : c5 * 4294967296 + d2 = 10 * y2 + c6 ∧ 0 ≤ y2 ∧ y2 < 4294967296 ∧ 0 ≤ c6 ∧ c6 < 10 := by omega
    have t1 : c6 * 4294967296 + d1 = 10 * y1 + c7 ∧ 0 ≤ y1 ∧ y1 < 4294967296 ∧ 0 ≤ c7 ∧ c7 < 10 := by omega
    have t0 : c7 * 4294967296 + d0 = 10 * y0 + c8 ∧ 0 ≤ y0 ∧ y0 < 4294967296 ∧ 0 ≤ c8 ∧ c8 < 10 := by omega
    clear s1 s2 s3 s4 s5 s6 s7 s8 q0 q1 q2 q3 q4 q5 q6 q7 b0 b1 b2 b3 b4 b5 b6 b7
    have hn : n = 10 * (((((((y7 * 4294967296 + y6) * 4294967296 + y5) * 4294967296 + y4) * 4294967296 + y3) * 4294967296 + y2) * 4294967296 + y1) * 4294967296 + y0) + c8 := by omega
    have hq : n / 10 = ((((((y7 * 4294967296 + y6) * 4294967296 + y5) * 4294967296 + y4) * 4294967296 + y3) * 4294967296 + y2) * 4294967296 + y1) * 4294967296 + y0 := by omega
    have hm : n % 10 = c8 := by omega
    rw [hq, hm]
    obtain ⟨_, u7, v7, _, _⟩ := t7
    obtain ⟨_, u6, v6, _, _⟩ := t6
    obtain ⟨_, u5, v5, _, _⟩ := t5
    obtain ⟨_, u4, v4, _, _⟩ := t4
    obtain ⟨_, u3, v3, _, _⟩ := t3
    obtain ⟨_, u2, v2, _, _⟩ := t2
    obtain ⟨_, u1, v1, _, _⟩ := t1
    obtain ⟨_, u0, v0, _, _⟩ := t0
    clear hn hq hm e0
    refine ⟨?_, rfl⟩
    unfold nv
    have g0 : l0 (((((((y7 * 4294967296 + y6) * 4294967296 + y5) * 4294967296 + y4) * 4294967296 + y3) * 4294967296 + y2) * 4294967296 + y1) * 4294967296 + y0) = y1 * 4294967296 + y0 := by unfold l0; omega
    have g1 : l1 (((((((y7 * 4294967296 + y6) * 4294967296 + y5) * 4294967296 + y4) * 4294967296 + y3) * 4294967296 + y2) * 4294967296 + y1) * 4294967296 + y0) = y3 * 4294967296 + y2 := by unfold l1; omega
    have g2 : l2 (((((((y7 * 4294967296 + y6) * 4294967296 + y5) * 4294967296 + y4) * 4294967296 + y3) * 4294967296 + y2) * 4294967296 + y1) * 4294967296 + y0) = y5 * 4294967296 + y4 := by unfold l2; omega
    have g3 : l3 (((((((y7 * 4294967296 + y6) * 4294967296 + y5) * 4294967296 + y4) * 4294967296 + y3) * 4294967296 + y2) * 4294967296 + y1) * 4294967296 + y0) = y7 * 4294967296 + y6 := by unfold l3; omega
    rw [g0, g1, g2, g3]
  rw [hQ.1] at key
  have e8 : srd n (8 - 0) = n % 10 := hQ.2
  rw [e8] at key
  exact key
end Go.Proofs.Ytoiiekmkcpcbgaa
