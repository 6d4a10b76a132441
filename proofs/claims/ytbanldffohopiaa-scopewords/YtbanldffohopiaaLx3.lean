/-
  Both Names.
-/
import Derived.Test.YtbanldffohopiaaBs
namespace Go.Proofs.Ytbanldffohopiaa
open Go.RowKit
theorem eq9 {a b : ByteArray} {r : Bool} (h : (a.toList == b.toList) = r) (x y : Operand) (w : World) : (do eqGuard .eql 9 x y (.string a) (.string b); binOp .eql 9 (.string a) (.string b)).run Try.prog w = .ok (.bool r) w := by
  subst h; simp [go_sem]
theorem eqz9 {s : ByteArray} {r : Bool} (h : decide (s.size = 0) = r) (x y : Operand) (w : World) : (do eqGuard .eql 9 x y (.string s) (.string ⟨#[]⟩); binOp .eql 9 (.string s) (.string ⟨#[]⟩)).run Try.prog w = .ok (.bool r) w := by
  refine eq9 (r := r) ?_ _ _ _
  rw [← h, Lib.toList_data, Lib.toList_data, Bool.eq_iff_iff, beq_iff_eq, decide_eq_true_iff, ← by8_len]
  exact List.length_eq_zero_iff.symm
theorem idx0z {s : ByteArray} (h : 0 < s.size) (w : World) : (Instr.index 9 (.string s) (.int .i64 (0))).run Try.prog w = .ok (.int .u8 (bt s (0))) w := idx_b (k := 0) h w
theorem ltr_c {f : Nat} {c : Int} {r : Bool} (h : ltr c = r) (hf : ∀ (c : Int) (w : World), Calls Try.prog f #[.int .u8 c] w fun e w' => e = .returned (.bool (ltr c)) ∧ Mo w w') (w : World) : Calls Try.prog f #[.int .u8 c] w fun e w' => e = .returned (.bool r) ∧ Mo w w' := h ▸ hf c w
theorem dgt_c {f : Nat} {c : Int} {r : Bool} (h : dgt c = r) (hf : ∀ (c : Int) (w : World), Calls Try.prog f #[.int .u8 c] w fun e w' => e = .returned (.bool (dgt c)) ∧ Mo w w') (w : World) : Calls Try.prog f #[.int .u8 c] w fun e w' => e = .returned (.bool r) ∧ Mo w w' := h ▸ hf c w
/-- Letters and digits alone from a place on. -/
def nmF (s : ByteArray) : Nat → Nat → Bool
  | 0, _ => true
  | n + 1, k => (ltr (bt s k) || dgt (bt s k)) && nmF s n (k + 1)
def nmA (s : ByteArray) (k : Nat) : Bool := nmF s (s.size - k) k
theorem nmA_eq (s : ByteArray) (k : Nat) : nmA s k = if _h : k < s.size then (ltr (bt s k) || dgt (bt s k)) && nmA s (k + 1) else true := by
  unfold nmA
  by_cases h : k < s.size
  · rw [dif_pos h, show s.size - k = (s.size - (k + 1)) + 1 by omega]; rfl
  · rw [dif_neg h, show s.size - k = 0 by omega]; rfl
theorem nmA_in {s : ByteArray} {k : Nat} (h : k < s.size) : nmA s k = ((ltr (bt s k) || dgt (bt s k)) && nmA s (k + 1)) := by rw [nmA_eq, dif_pos h]
theorem nmA_end {s : ByteArray} {k : Nat} (h : ¬ k < s.size) : nmA s k = true := by rw [nmA_eq, dif_neg h]
/-- May a text name a thing? -/
def nam (s : ByteArray) : Bool := !decide (s.size = 0) && !decide (32 < s.size) && ltr (bt s 0) && nmA s 0
theorem name_n (s : ByteArray) (w : World) : Calls Try.prog 64 #[.string s] w fun e w' => e = .returned (.bool (nam s)) ∧ Mo w w' := by
  refine w_enter 35 Try.func64 Try.ntmps64 rfl rfl ?_
  have M : Mo w w := Mo.refl _
  refine w_seq ?_
  refine w_reg ?_
  refine wl_mv (.const (.bool false)) (.bool false) (fun _ => rfl) rfl rfl ?_
  refine w_nil ?_
  refine xn_then ?_
  refine w_seq ?_
  refine w_seq ?_
  cases hf0 : decide (s.size = 0) with
  | true =>
    have hf0p := of_decide_eq_true hf0
    refine w_reg ?_
    refine wl_mv (.tmp 0) (.string s) (fun _ => rfl) rfl rfl ?_
    refine wl_bin (fun x y => do eqGuard .eql 9 (.tmp 4) (.const (.string ⟨#[]⟩)) x y; binOp .eql 9 x y) (.tmp 4) (.const (.string ⟨#[]⟩)) (.string s) (.string ⟨#[]⟩) (.bool true) (fun _ => rfl) rfl rfl (eqz9 hf0 _ _ _) rfl ?_
    refine wl_mv (.tmp 5) (.bool true) (fun _ => rfl) rfl rfl ?_
    refine wl_skip rfl ?_
    refine wl_skip rfl ?_
    refine wl_skip rfl ?_
    refine wl_pick (.tmp 6) (.const (.bool true)) (.tmp 9) true (.bool true) (fun _ => rfl) rfl rfl rfl ?_
    refine wl_mv (.tmp 10) (.bool true) (fun _ => rfl) rfl rfl ?_
    refine wl_skip rfl ?_
    refine wl_skip rfl ?_
    refine wl_skip rfl ?_
    refine wl_skip rfl ?_
    refine wl_pick (.tmp 11) (.const (.bool true)) (.tmp 15) true (.bool true) (fun _ => rfl) rfl rfl rfl ?_
    refine w_nil ?_
    refine xn_then ?_
    refine w_condT rfl ?_
    refine w_seq ?_
    refine w_reg ?_
    refine wl_mv (.const (.bool false)) (.bool false) (fun _ => rfl) rfl rfl ?_
    refine w_nil ?_
    refine xn_then ?_
    refine w_ret ?_
    refine xr_then ?_
    exact w_ret1 _ (.bool false) rfl rfl ⟨by unfold nam; rw [hf0]; rfl, M⟩
  | false =>
    have hf0p := of_decide_eq_false hf0
    cases hf1 : decide (32 < s.size) with
    | true =>
      have hf1p := of_decide_eq_true hf1
      refine w_reg ?_
      refine wl_mv (.tmp 0) (.string s) (fun _ => rfl) rfl rfl ?_
      refine wl_bin (fun x y => do eqGuard .eql 9 (.tmp 4) (.const (.string ⟨#[]⟩)) x y; binOp .eql 9 x y) (.tmp 4) (.const (.string ⟨#[]⟩)) (.string s) (.string ⟨#[]⟩) (.bool false) (fun _ => rfl) rfl rfl (eqz9 hf0 _ _ _) rfl ?_
      refine wl_mv (.tmp 5) (.bool false) (fun _ => rfl) rfl rfl ?_
      refine wl_mv (.tmp 0) (.string s) (fun _ => rfl) rfl rfl ?_
      refine wl_val (.int .i64 ((s.size : Nat) : Int)) (len_s _ _ s (by exact rfl) _ _ _ _ _ _) rfl ?_
      refine wl_bin (fun x y => do eqGuard .gtr 3 (.tmp 8) (.const (.int .i64 (32))) x y; binOp .gtr 3 x y) (.tmp 8) (.const (.int .i64 (32))) (.int .i64 ((s.size : Nat) : Int)) (.int .i64 (32)) (.bool true) (fun _ => rfl) rfl rfl (gtN hf1 _ _ _) rfl ?_
      refine wl_pick (.tmp 6) (.const (.bool true)) (.tmp 9) false (.bool true) (fun _ => rfl) rfl rfl rfl ?_
      refine wl_mv (.tmp 10) (.bool true) (fun _ => rfl) rfl rfl ?_
      refine wl_skip rfl ?_
      refine wl_skip rfl ?_
      refine wl_skip rfl ?_
      refine wl_skip rfl ?_
      refine wl_pick (.tmp 11) (.const (.bool true)) (.tmp 15) true (.bool true) (fun _ => rfl) rfl rfl rfl ?_
      refine w_nil ?_
      refine xn_then ?_
      refine w_condT rfl ?_
      refine w_seq ?_
      refine w_reg ?_
      refine wl_mv (.const (.bool false)) (.bool false) (fun _ => rfl) rfl rfl ?_
      refine w_nil ?_
      refine xn_then ?_
      refine w_ret ?_
      refine xr_then ?_
      exact w_ret1 _ (.bool false) rfl rfl ⟨by unfold nam; rw [hf0, hf1]; rfl, M⟩
    | false =>
      have hf1p := of_decide_eq_false hf1
      cases hf2 : ltr (bt s (0)) with
      | true =>
        refine w_reg ?_
        refine wl_mv (.tmp 0) (.string s) (fun _ => rfl) rfl rfl ?_
        refine wl_bin (fun x y => do eqGuard .eql 9 (.tmp 4) (.const (.string ⟨#[]⟩)) x y; binOp .eql 9 x y) (.tmp 4) (.const (.string ⟨#[]⟩)) (.string s) (.string ⟨#[]⟩) (.bool false) (fun _ => rfl) rfl rfl (eqz9 hf0 _ _ _) rfl ?_
        refine wl_mv (.tmp 5) (.bool false) (fun _ => rfl) rfl rfl ?_
        refine wl_mv (.tmp 0) (.string s) (fun _ => rfl) rfl rfl ?_
        refine wl_val (.int .i64 ((s.size : Nat) : Int)) (len_s _ _ s (by exact rfl) _ _ _ _ _ _) rfl ?_
        refine wl_bin (fun x y => do eqGuard .gtr 3 (.tmp 8) (.const (.int .i64 (32))) x y; binOp .gtr 3 x y) (.tmp 8) (.const (.int .i64 (32))) (.int .i64 ((s.size : Nat) : Int)) (.int .i64 (32)) (.bool false) (fun _ => rfl) rfl rfl (gtN hf1 _ _ _) rfl ?_
        refine wl_pick (.tmp 6) (.const (.bool true)) (.tmp 9) false (.bool false) (fun _ => rfl) rfl rfl rfl ?_
        refine wl_mv (.tmp 10) (.bool false) (fun _ => rfl) rfl rfl ?_
        refine wl_mv (.tmp 0) (.string s) (fun _ => rfl) rfl rfl ?_
        refine wl_bin (fun x y => Instr.index 9 x y) (.tmp 12) (.const (.int .i64 (0))) (.string s) (.int .i64 (0)) (.int .u8 (bt s (0))) (fun _ => rfl) rfl rfl (idx0z (by omega) _) rfl ?_
        refine wl_call 74 [(.tmp 13)] _ [.int .u8 (bt s (0))] (.bool true) rfl rfl (fun _ _ => by kernel_rfl) (ltr_c hf2 isLetter_n _) rfl ?_
        intro w1 hq
        replace M := M.trans hq
        clear hq
        refine wl_un (fun v => Op.unary .not v) (.tmp 14) (.bool true) (.bool false) (fun _ => rfl) rfl (by kernel_rfl) rfl ?_
        refine wl_pick (.tmp 11) (.const (.bool true)) (.tmp 15) false (.bool false) (fun _ => rfl) rfl rfl rfl ?_
        refine w_nil ?_
        refine xn_then ?_
        refine w_condF rfl ?_
        refine w_skip ?_
        refine xn_then ?_
        refine w_seq ?_
        refine w_seq ?_
        refine w_reg ?_
        refine wl_mv (.tmp 0) (.string s) (fun _ => rfl) rfl rfl ?_
        refine wl_val (.int .i64 ((s.size : Nat) : Int)) (len_s _ _ s (by exact rfl) _ _ _ _ _ _) rfl ?_
        refine wl_mv (.const (.int .i64 (0))) (.int .i64 (0)) (fun _ => rfl) rfl rfl ?_
        refine w_nil ?_
        refine xn_then ?_
        refine w_block ?_
        have hnam : nam s = nmA s 0 := by unfold nam; rw [hf0, hf1, hf2]; rfl
        refine w_loop (fun m l w1 => ∃ j : Nat, m = s.size - j ∧ look l 0 = .string s ∧ look l 19 = .int .i64 ((j : Nat) : Int) ∧ look l 18 = .int .i64 ((s.size : Nat) : Int) ∧ j ≤ s.size ∧ nmA s j = nam s ∧ Mo w w1) _ ⟨0, rfl, rfl, rfl, rfl, by omega, hnam.symm, M⟩ ?_
        clear M
        rintro m l wl ⟨j, rfl, e0, e3, e18, hj, hN, M⟩
        refine w_seq ?_
        cases hf30 : decide (j < s.size) with
        | true =>
          have hf30p := of_decide_eq_true hf30
          refine w_reg ?_
          refine wl_bin (fun x y => do eqGuard .lss 3 (.tmp 19) (.tmp 18) x y; binOp .lss 3 x y) (.tmp 19) (.tmp 18) (.int .i64 ((j : Nat) : Int)) (.int .i64 ((s.size : Nat) : Int)) (.bool true) (fun _ => rfl) e3 e18 (ltN hf30 _ _ _) rfl ?_
          refine w_nil ?_
          refine xn_then ?_
          refine w_seq ?_
          refine w_condT rfl ?_
          refine w_skip ?_
          refine xn_then ?_
          refine w_seq ?_
          refine w_block ?_
          refine w_seq ?_
          refine w_reg ?_
          refine wl_mv (.tmp 19) (.int .i64 ((j : Nat) : Int)) (fun _ => rfl) e3 rfl ?_
          refine wl_mv (.tmp 21) (.int .i64 ((j : Nat) : Int)) (fun _ => rfl) rfl rfl ?_
          refine w_nil ?_
          refine xn_then ?_
          refine w_seq ?_
          cases hf31 : ltr (bt s (j)) with
          | true =>
            refine w_reg ?_
            refine wl_mv (.tmp 0) (.string s) (fun _ => rfl) e0 rfl ?_
            refine wl_mv (.tmp 3) (.int .i64 ((j : Nat) : Int)) (fun _ => rfl) rfl rfl ?_
            refine wl_bin (fun x y => Instr.index 9 x y) (.tmp 22) (.tmp 23) (.string s) (.int .i64 ((j : Nat) : Int)) (.int .u8 (bt s (j))) (fun _ => rfl) rfl rfl (idx_b (by omega) _) rfl ?_
            refine wl_call 74 [(.tmp 24)] _ [.int .u8 (bt s (j))] (.bool true) rfl rfl (fun _ _ => by kernel_rfl) (ltr_c hf31 isLetter_n _) rfl ?_
            intro w31 hq
            replace M := M.trans hq
            clear hq
            refine wl_un (fun v => Op.unary .not v) (.tmp 25) (.bool true) (.bool false) (fun _ => rfl) rfl (by kernel_rfl) rfl ?_
            refine wl_mv (.tmp 26) (.bool false) (fun _ => rfl) rfl rfl ?_
            refine wl_skip rfl ?_
            refine wl_skip rfl ?_
            refine wl_skip rfl ?_
            refine wl_skip rfl ?_
            refine wl_skip rfl ?_
            refine wl_pick (.tmp 27) (.tmp 32) (.const (.bool false)) false (.bool false) (fun _ => rfl) rfl rfl rfl ?_
            refine w_nil ?_
            refine xn_then ?_
            refine w_condF rfl ?_
            refine w_skip ?_
            refine xn_blk ?_
            refine xn_then ?_
            refine w_reg ?_
            refine wl_bin (fun x y => do eqGuard .add 3 (.tmp 19) (.const (.int .i64 (1))) x y; binOp .add 3 x y) (.tmp 19) (.const (.int .i64 (1))) (.int .i64 ((j : Nat) : Int)) (.int .i64 (1)) (.int .i64 ((j + 1 : Nat) : Int)) (fun _ => rfl) e3 rfl (add1r (k := j) (by omega) _ _ _) rfl ?_
            refine wl_mv (.tmp 34) (.int .i64 ((j + 1 : Nat) : Int)) (fun _ => rfl) rfl rfl ?_
            refine w_nil ?_
            exact xn_loop (s.size - (j + 1)) (by omega) ⟨j + 1, rfl, e0, rfl, e18, by omega, by rw [nmA_in (by omega)] at hN; rw [← hN]; simp [hf31], M⟩
          | false =>
            cases hf32 : dgt (bt s (j)) with
            | true =>
              refine w_reg ?_
              refine wl_mv (.tmp 0) (.string s) (fun _ => rfl) e0 rfl ?_
              refine wl_mv (.tmp 3) (.int .i64 ((j : Nat) : Int)) (fun _ => rfl) rfl rfl ?_
              refine wl_bin (fun x y => Instr.index 9 x y) (.tmp 22) (.tmp 23) (.string s) (.int .i64 ((j : Nat) : Int)) (.int .u8 (bt s (j))) (fun _ => rfl) rfl rfl (idx_b (by omega) _) rfl ?_
              refine wl_call 74 [(.tmp 24)] _ [.int .u8 (bt s (j))] (.bool false) rfl rfl (fun _ _ => by kernel_rfl) (ltr_c hf31 isLetter_n _) rfl ?_
              intro w31 hq
              replace M := M.trans hq
              clear hq
              refine wl_un (fun v => Op.unary .not v) (.tmp 25) (.bool false) (.bool true) (fun _ => rfl) rfl (by kernel_rfl) rfl ?_
              refine wl_mv (.tmp 26) (.bool true) (fun _ => rfl) rfl rfl ?_
              refine wl_mv (.tmp 0) (.string s) (fun _ => rfl) e0 rfl ?_
              refine wl_mv (.tmp 3) (.int .i64 ((j : Nat) : Int)) (fun _ => rfl) rfl rfl ?_
              refine wl_bin (fun x y => Instr.index 9 x y) (.tmp 28) (.tmp 29) (.string s) (.int .i64 ((j : Nat) : Int)) (.int .u8 (bt s (j))) (fun _ => rfl) rfl rfl (idx_b (by omega) _) rfl ?_
              refine wl_call 75 [(.tmp 30)] _ [.int .u8 (bt s (j))] (.bool true) rfl rfl (fun _ _ => by kernel_rfl) (dgt_c hf32 lisDigit_n _) rfl ?_
              intro w32 hq
              replace M := M.trans hq
              clear hq
              refine wl_un (fun v => Op.unary .not v) (.tmp 31) (.bool true) (.bool false) (fun _ => rfl) rfl (by kernel_rfl) rfl ?_
              refine wl_pick (.tmp 27) (.tmp 32) (.const (.bool false)) true (.bool false) (fun _ => rfl) rfl rfl rfl ?_
              refine w_nil ?_
              refine xn_then ?_
              refine w_condF rfl ?_
              refine w_skip ?_
              refine xn_blk ?_
              refine xn_then ?_
              refine w_reg ?_
              refine wl_bin (fun x y => do eqGuard .add 3 (.tmp 19) (.const (.int .i64 (1))) x y; binOp .add 3 x y) (.tmp 19) (.const (.int .i64 (1))) (.int .i64 ((j : Nat) : Int)) (.int .i64 (1)) (.int .i64 ((j + 1 : Nat) : Int)) (fun _ => rfl) e3 rfl (add1r (k := j) (by omega) _ _ _) rfl ?_
              refine wl_mv (.tmp 34) (.int .i64 ((j + 1 : Nat) : Int)) (fun _ => rfl) rfl rfl ?_
              refine w_nil ?_
              exact xn_loop (s.size - (j + 1)) (by omega) ⟨j + 1, rfl, e0, rfl, e18, by omega, by rw [nmA_in (by omega)] at hN; rw [← hN]; simp [hf31, hf32], M⟩
            | false =>
              refine w_reg ?_
              refine wl_mv (.tmp 0) (.string s) (fun _ => rfl) e0 rfl ?_
              refine wl_mv (.tmp 3) (.int .i64 ((j : Nat) : Int)) (fun _ => rfl) rfl rfl ?_
              refine wl_bin (fun x y => Instr.index 9 x y) (.tmp 22) (.tmp 23) (.string s) (.int .i64 ((j : Nat) : Int)) (.int .u8 (bt s (j))) (fun _ => rfl) rfl rfl (idx_b (by omega) _) rfl ?_
              refine wl_call 74 [(.tmp 24)] _ [.int .u8 (bt s (j))] (.bool false) rfl rfl (fun _ _ => by kernel_rfl) (ltr_c hf31 isLetter_n _) rfl ?_
              intro w31 hq
              replace M := M.trans hq
              clear hq
              refine wl_un (fun v => Op.unary .not v) (.tmp 25) (.bool false) (.bool true) (fun _ => rfl) rfl (by kernel_rfl) rfl ?_
              refine wl_mv (.tmp 26) (.bool true) (fun _ => rfl) rfl rfl ?_
              refine wl_mv (.tmp 0) (.string s) (fun _ => rfl) e0 rfl ?_
              refine wl_mv (.tmp 3) (.int .i64 ((j : Nat) : Int)) (fun _ => rfl) rfl rfl ?_
              refine wl_bin (fun x y => Instr.index 9 x y) (.tmp 28) (.tmp 29) (.string s) (.int .i64 ((j : Nat) : Int)) (.int .u8 (bt s (j))) (fun _ => rfl) rfl rfl (idx_b (by omega) _) rfl ?_
              refine wl_call 75 [(.tmp 30)] _ [.int .u8 (bt s (j))] (.bool false) rfl rfl (fun _ _ => by kernel_rfl) (dgt_c hf32 lisDigit_n _) rfl ?_
              intro w32 hq
              replace M := M.trans hq
              clear hq
              refine wl_un (fun v => Op.unary .not v) (.tmp 31) (.bool false) (.bool true) (fun _ => rfl) rfl (by kernel_rfl) rfl ?_
              refine wl_pick (.tmp 27) (.tmp 32) (.const (.bool false)) true (.bool true) (fun _ => rfl) rfl rfl rfl ?_
              refine w_nil ?_
              refine xn_then ?_
              refine w_condT rfl ?_
              refine w_seq ?_
              refine w_reg ?_
              refine wl_mv (.const (.bool false)) (.bool false) (fun _ => rfl) rfl rfl ?_
              refine w_nil ?_
              refine xn_then ?_
              refine w_ret ?_
              refine xr_blk ?_
              refine xr_then ?_
              refine xr_then ?_
              refine xr_blk ?_
              refine xr_then ?_
              exact w_ret1 _ (.bool false) rfl rfl ⟨by rw [← hN, nmA_in (by omega)]; simp [hf31, hf32], M⟩
        | false =>
          have hf30p := of_decide_eq_false hf30
          refine w_reg ?_
          refine wl_bin (fun x y => do eqGuard .lss 3 (.tmp 19) (.tmp 18) x y; binOp .lss 3 x y) (.tmp 19) (.tmp 18) (.int .i64 ((j : Nat) : Int)) (.int .i64 ((s.size : Nat) : Int)) (.bool false) (fun _ => rfl) e3 e18 (ltN hf30 _ _ _) rfl ?_
          refine w_nil ?_
          refine xn_then ?_
          refine w_seq ?_
          refine w_condF rfl ?_
          refine w_exit ?_
          refine xx_then ?_
          refine xx_then ?_
          refine xx_blk ?_
          refine xn_then ?_
          refine w_seq ?_
          refine w_reg ?_
          refine wl_mv (.const (.bool true)) (.bool true) (fun _ => rfl) rfl rfl ?_
          refine w_nil ?_
          refine xn_then ?_
          refine w_ret ?_
          exact w_ret1 _ (.bool true) rfl rfl ⟨by rw [← hN, nmA_end (by omega)], M⟩
      | false =>
        refine w_reg ?_
        refine wl_mv (.tmp 0) (.string s) (fun _ => rfl) rfl rfl ?_
        refine wl_bin (fun x y => do eqGuard .eql 9 (.tmp 4) (.const (.string ⟨#[]⟩)) x y; binOp .eql 9 x y) (.tmp 4) (.const (.string ⟨#[]⟩)) (.string s) (.string ⟨#[]⟩) (.bool false) (fun _ => rfl) rfl rfl (eqz9 hf0 _ _ _) rfl ?_
        refine wl_mv (.tmp 5) (.bool false) (fun _ => rfl) rfl rfl ?_
        refine wl_mv (.tmp 0) (.string s) (fun _ => rfl) rfl rfl ?_
        refine wl_val (.int .i64 ((s.size : Nat) : Int)) (len_s _ _ s (by exact rfl) _ _ _ _ _ _) rfl ?_
        refine wl_bin (fun x y => do eqGuard .gtr 3 (.tmp 8) (.const (.int .i64 (32))) x y; binOp .gtr 3 x y) (.tmp 8) (.const (.int .i64 (32))) (.int .i64 ((s.size : Nat) : Int)) (.int .i64 (32)) (.bool false) (fun _ => rfl) rfl rfl (gtN hf1 _ _ _) rfl ?_
        refine wl_pick (.tmp 6) (.const (.bool true)) (.tmp 9) false (.bool false) (fun _ => rfl) rfl rfl rfl ?_
        refine wl_mv (.tmp 10) (.bool false) (fun _ => rfl) rfl rfl ?_
        refine wl_mv (.tmp 0) (.string s) (fun _ => rfl) rfl rfl ?_
        refine wl_bin (fun x y => Instr.index 9 x y) (.tmp 12) (.const (.int .i64 (0))) (.string s) (.int .i64 (0)) (.int .u8 (bt s (0))) (fun _ => rfl) rfl rfl (idx0z (by omega) _) rfl ?_
        refine wl_call 74 [(.tmp 13)] _ [.int .u8 (bt s (0))] (.bool false) rfl rfl (fun _ _ => by kernel_rfl) (ltr_c hf2 isLetter_n _) rfl ?_
        intro w1 hq
        replace M := M.trans hq
        clear hq
        refine wl_un (fun v => Op.unary .not v) (.tmp 14) (.bool false) (.bool true) (fun _ => rfl) rfl (by kernel_rfl) rfl ?_
        refine wl_pick (.tmp 11) (.const (.bool true)) (.tmp 15) false (.bool true) (fun _ => rfl) rfl rfl rfl ?_
        refine w_nil ?_
        refine xn_then ?_
        refine w_condT rfl ?_
        refine w_seq ?_
        refine w_reg ?_
        refine wl_mv (.const (.bool false)) (.bool false) (fun _ => rfl) rfl rfl ?_
        refine w_nil ?_
        refine xn_then ?_
        refine w_ret ?_
        refine xr_then ?_
        exact w_ret1 _ (.bool false) rfl rfl ⟨by unfold nam; rw [hf0, hf1, hf2]; rfl, M⟩
theorem rname_n (s : ByteArray) (w : World) : Calls Try.prog 57 #[.string s] w fun e w' => e = .returned (.bool (nam s)) ∧ Mo w w' := by
  refine w_enter 35 Try.func57 Try.ntmps57 rfl rfl ?_
  have M : Mo w w := Mo.refl _
  refine w_seq ?_
  refine w_reg ?_
  refine wl_mv (.const (.bool false)) (.bool false) (fun _ => rfl) rfl rfl ?_
  refine w_nil ?_
  refine xn_then ?_
  refine w_seq ?_
  refine w_seq ?_
  cases hf0 : decide (s.size = 0) with
  | true =>
    have hf0p := of_decide_eq_true hf0
    refine w_reg ?_
    refine wl_mv (.tmp 0) (.string s) (fun _ => rfl) rfl rfl ?_
    refine wl_bin (fun x y => do eqGuard .eql 9 (.tmp 4) (.const (.string ⟨#[]⟩)) x y; binOp .eql 9 x y) (.tmp 4) (.const (.string ⟨#[]⟩)) (.string s) (.string ⟨#[]⟩) (.bool true) (fun _ => rfl) rfl rfl (eqz9 hf0 _ _ _) rfl ?_
    refine wl_mv (.tmp 5) (.bool true) (fun _ => rfl) rfl rfl ?_
    refine wl_skip rfl ?_
    refine wl_skip rfl ?_
    refine wl_skip rfl ?_
    refine wl_pick (.tmp 6) (.const (.bool true)) (.tmp 9) true (.bool true) (fun _ => rfl) rfl rfl rfl ?_
    refine wl_mv (.tmp 10) (.bool true) (fun _ => rfl) rfl rfl ?_
    refine wl_skip rfl ?_
    refine wl_skip rfl ?_
    refine wl_skip rfl ?_
    refine wl_skip rfl ?_
    refine wl_pick (.tmp 11) (.const (.bool true)) (.tmp 15) true (.bool true) (fun _ => rfl) rfl rfl rfl ?_
    refine w_nil ?_
    refine xn_then ?_
    refine w_condT rfl ?_
    refine w_seq ?_
    refine w_reg ?_
    refine wl_mv (.const (.bool false)) (.bool false) (fun _ => rfl) rfl rfl ?_
    refine w_nil ?_
    refine xn_then ?_
    refine w_ret ?_
    refine xr_then ?_
    exact w_ret1 _ (.bool false) rfl rfl ⟨by unfold nam; rw [hf0]; rfl, M⟩
  | false =>
    have hf0p := of_decide_eq_false hf0
    cases hf1 : decide (32 < s.size) with
    | true =>
      have hf1p := of_decide_eq_true hf1
      refine w_reg ?_
      refine wl_mv (.tmp 0) (.string s) (fun _ => rfl) rfl rfl ?_
      refine wl_bin (fun x y => do eqGuard .eql 9 (.tmp 4) (.const (.string ⟨#[]⟩)) x y; binOp .eql 9 x y) (.tmp 4) (.const (.string ⟨#[]⟩)) (.string s) (.string ⟨#[]⟩) (.bool false) (fun _ => rfl) rfl rfl (eqz9 hf0 _ _ _) rfl ?_
      refine wl_mv (.tmp 5) (.bool false) (fun _ => rfl) rfl rfl ?_
      refine wl_mv (.tmp 0) (.string s) (fun _ => rfl) rfl rfl ?_
      refine wl_val (.int .i64 ((s.size : Nat) : Int)) (len_s _ _ s (by exact rfl) _ _ _ _ _ _) rfl ?_
      refine wl_bin (fun x y => do eqGuard .gtr 3 (.tmp 8) (.const (.int .i64 (32))) x y; binOp .gtr 3 x y) (.tmp 8) (.const (.int .i64 (32))) (.int .i64 ((s.size : Nat) : Int)) (.int .i64 (32)) (.bool true) (fun _ => rfl) rfl rfl (gtN hf1 _ _ _) rfl ?_
      refine wl_pick (.tmp 6) (.const (.bool true)) (.tmp 9) false (.bool true) (fun _ => rfl) rfl rfl rfl ?_
      refine wl_mv (.tmp 10) (.bool true) (fun _ => rfl) rfl rfl ?_
      refine wl_skip rfl ?_
      refine wl_skip rfl ?_
      refine wl_skip rfl ?_
      refine wl_skip rfl ?_
      refine wl_pick (.tmp 11) (.const (.bool true)) (.tmp 15) true (.bool true) (fun _ => rfl) rfl rfl rfl ?_
      refine w_nil ?_
      refine xn_then ?_
      refine w_condT rfl ?_
      refine w_seq ?_
      refine w_reg ?_
      refine wl_mv (.const (.bool false)) (.bool false) (fun _ => rfl) rfl rfl ?_
      refine w_nil ?_
      refine xn_then ?_
      refine w_ret ?_
      refine xr_then ?_
      exact w_ret1 _ (.bool false) rfl rfl ⟨by unfold nam; rw [hf0, hf1]; rfl, M⟩
    | false =>
      have hf1p := of_decide_eq_false hf1
      cases hf2 : ltr (bt s (0)) with
      | true =>
        refine w_reg ?_
        refine wl_mv (.tmp 0) (.string s) (fun _ => rfl) rfl rfl ?_
        refine wl_bin (fun x y => do eqGuard .eql 9 (.tmp 4) (.const (.string ⟨#[]⟩)) x y; binOp .eql 9 x y) (.tmp 4) (.const (.string ⟨#[]⟩)) (.string s) (.string ⟨#[]⟩) (.bool false) (fun _ => rfl) rfl rfl (eqz9 hf0 _ _ _) rfl ?_
        refine wl_mv (.tmp 5) (.bool false) (fun _ => rfl) rfl rfl ?_
        refine wl_mv (.tmp 0) (.string s) (fun _ => rfl) rfl rfl ?_
        refine wl_val (.int .i64 ((s.size : Nat) : Int)) (len_s _ _ s (by exact rfl) _ _ _ _ _ _) rfl ?_
        refine wl_bin (fun x y => do eqGuard .gtr 3 (.tmp 8) (.const (.int .i64 (32))) x y; binOp .gtr 3 x y) (.tmp 8) (.const (.int .i64 (32))) (.int .i64 ((s.size : Nat) : Int)) (.int .i64 (32)) (.bool false) (fun _ => rfl) rfl rfl (gtN hf1 _ _ _) rfl ?_
        refine wl_pick (.tmp 6) (.const (.bool true)) (.tmp 9) false (.bool false) (fun _ => rfl) rfl rfl rfl ?_
        refine wl_mv (.tmp 10) (.bool false) (fun _ => rfl) rfl rfl ?_
        refine wl_mv (.tmp 0) (.string s) (fun _ => rfl) rfl rfl ?_
        refine wl_bin (fun x y => Instr.index 9 x y) (.tmp 12) (.const (.int .i64 (0))) (.string s) (.int .i64 (0)) (.int .u8 (bt s (0))) (fun _ => rfl) rfl rfl (idx0z (by omega) _) rfl ?_
        refine wl_call 70 [(.tmp 13)] _ [.int .u8 (bt s (0))] (.bool true) rfl rfl (fun _ _ => by kernel_rfl) (ltr_c hf2 letter_n _) rfl ?_
        intro w1 hq
        replace M := M.trans hq
        clear hq
        refine wl_un (fun v => Op.unary .not v) (.tmp 14) (.bool true) (.bool false) (fun _ => rfl) rfl (by kernel_rfl) rfl ?_
        refine wl_pick (.tmp 11) (.const (.bool true)) (.tmp 15) false (.bool false) (fun _ => rfl) rfl rfl rfl ?_
        refine w_nil ?_
        refine xn_then ?_
        refine w_condF rfl ?_
        refine w_skip ?_
        refine xn_then ?_
        refine w_seq ?_
        refine w_seq ?_
        refine w_reg ?_
        refine wl_mv (.const (.int .i64 (0))) (.int .i64 (0)) (fun _ => rfl) rfl rfl ?_
        refine w_nil ?_
        refine xn_then ?_
        refine w_block ?_
        have hnam : nam s = nmA s 0 := by unfold nam; rw [hf0, hf1, hf2]; rfl
        refine w_loop (fun m l w1 => ∃ j : Nat, m = s.size - j ∧ look l 0 = .string s ∧ look l 3 = .int .i64 ((j : Nat) : Int) ∧ j ≤ s.size ∧ nmA s j = nam s ∧ Mo w w1) _ ⟨0, rfl, rfl, rfl, by omega, hnam.symm, M⟩ ?_
        clear M
        rintro m l wl ⟨j, rfl, e0, e3, hj, hN, M⟩
        refine w_seq ?_
        refine w_seq ?_
        cases hf30 : decide (j < s.size) with
        | true =>
          have hf30p := of_decide_eq_true hf30
          refine w_reg ?_
          refine wl_mv (.tmp 3) (.int .i64 ((j : Nat) : Int)) (fun _ => rfl) e3 rfl ?_
          refine wl_mv (.tmp 0) (.string s) (fun _ => rfl) e0 rfl ?_
          refine wl_val (.int .i64 ((s.size : Nat) : Int)) (len_s _ _ s (by exact rfl) _ _ _ _ _ _) rfl ?_
          refine wl_bin (fun x y => do eqGuard .lss 3 (.tmp 17) (.tmp 19) x y; binOp .lss 3 x y) (.tmp 17) (.tmp 19) (.int .i64 ((j : Nat) : Int)) (.int .i64 ((s.size : Nat) : Int)) (.bool true) (fun _ => rfl) rfl rfl (ltN hf30 _ _ _) rfl ?_
          refine w_nil ?_
          refine xn_then ?_
          refine w_condT rfl ?_
          refine w_skip ?_
          refine xn_then ?_
          refine w_seq ?_
          refine w_block ?_
          refine w_seq ?_
          cases hf31 : ltr (bt s (j)) with
          | true =>
            refine w_reg ?_
            refine wl_mv (.tmp 0) (.string s) (fun _ => rfl) e0 rfl ?_
            refine wl_mv (.tmp 3) (.int .i64 ((j : Nat) : Int)) (fun _ => rfl) e3 rfl ?_
            refine wl_bin (fun x y => Instr.index 9 x y) (.tmp 23) (.tmp 24) (.string s) (.int .i64 ((j : Nat) : Int)) (.int .u8 (bt s (j))) (fun _ => rfl) rfl rfl (idx_b (by omega) _) rfl ?_
            refine wl_call 70 [(.tmp 25)] _ [.int .u8 (bt s (j))] (.bool true) rfl rfl (fun _ _ => by kernel_rfl) (ltr_c hf31 letter_n _) rfl ?_
            intro w31 hq
            replace M := M.trans hq
            clear hq
            refine wl_un (fun v => Op.unary .not v) (.tmp 26) (.bool true) (.bool false) (fun _ => rfl) rfl (by kernel_rfl) rfl ?_
            refine wl_mv (.tmp 27) (.bool false) (fun _ => rfl) rfl rfl ?_
            refine wl_skip rfl ?_
            refine wl_skip rfl ?_
            refine wl_skip rfl ?_
            refine wl_skip rfl ?_
            refine wl_skip rfl ?_
            refine wl_pick (.tmp 28) (.tmp 33) (.const (.bool false)) false (.bool false) (fun _ => rfl) rfl rfl rfl ?_
            refine w_nil ?_
            refine xn_then ?_
            refine w_condF rfl ?_
            refine w_skip ?_
            refine xn_blk ?_
            refine xn_then ?_
            refine w_reg ?_
            refine wl_mv (.tmp 3) (.int .i64 ((j : Nat) : Int)) (fun _ => rfl) e3 rfl ?_
            refine wl_bin (fun x y => do eqGuard .add 3 (.tmp 21) (.const (.int .i64 (1))) x y; binOp .add 3 x y) (.tmp 21) (.const (.int .i64 (1))) (.int .i64 ((j : Nat) : Int)) (.int .i64 (1)) (.int .i64 ((j + 1 : Nat) : Int)) (fun _ => rfl) rfl rfl (add1r (k := j) (by omega) _ _ _) rfl ?_
            refine wl_mv (.tmp 22) (.int .i64 ((j + 1 : Nat) : Int)) (fun _ => rfl) rfl rfl ?_
            refine w_nil ?_
            exact xn_loop (s.size - (j + 1)) (by omega) ⟨j + 1, rfl, e0, rfl, by omega, by rw [nmA_in (by omega)] at hN; rw [← hN]; simp [hf31], M⟩
          | false =>
            cases hf32 : dgt (bt s (j)) with
            | true =>
              refine w_reg ?_
              refine wl_mv (.tmp 0) (.string s) (fun _ => rfl) e0 rfl ?_
              refine wl_mv (.tmp 3) (.int .i64 ((j : Nat) : Int)) (fun _ => rfl) e3 rfl ?_
              refine wl_bin (fun x y => Instr.index 9 x y) (.tmp 23) (.tmp 24) (.string s) (.int .i64 ((j : Nat) : Int)) (.int .u8 (bt s (j))) (fun _ => rfl) rfl rfl (idx_b (by omega) _) rfl ?_
              refine wl_call 70 [(.tmp 25)] _ [.int .u8 (bt s (j))] (.bool false) rfl rfl (fun _ _ => by kernel_rfl) (ltr_c hf31 letter_n _) rfl ?_
              intro w31 hq
              replace M := M.trans hq
              clear hq
              refine wl_un (fun v => Op.unary .not v) (.tmp 26) (.bool false) (.bool true) (fun _ => rfl) rfl (by kernel_rfl) rfl ?_
              refine wl_mv (.tmp 27) (.bool true) (fun _ => rfl) rfl rfl ?_
              refine wl_mv (.tmp 0) (.string s) (fun _ => rfl) e0 rfl ?_
              refine wl_mv (.tmp 3) (.int .i64 ((j : Nat) : Int)) (fun _ => rfl) e3 rfl ?_
              refine wl_bin (fun x y => Instr.index 9 x y) (.tmp 29) (.tmp 30) (.string s) (.int .i64 ((j : Nat) : Int)) (.int .u8 (bt s (j))) (fun _ => rfl) rfl rfl (idx_b (by omega) _) rfl ?_
              refine wl_call 71 [(.tmp 31)] _ [.int .u8 (bt s (j))] (.bool true) rfl rfl (fun _ _ => by kernel_rfl) (dgt_c hf32 rdigit_n _) rfl ?_
              intro w32 hq
              replace M := M.trans hq
              clear hq
              refine wl_un (fun v => Op.unary .not v) (.tmp 32) (.bool true) (.bool false) (fun _ => rfl) rfl (by kernel_rfl) rfl ?_
              refine wl_pick (.tmp 28) (.tmp 33) (.const (.bool false)) true (.bool false) (fun _ => rfl) rfl rfl rfl ?_
              refine w_nil ?_
              refine xn_then ?_
              refine w_condF rfl ?_
              refine w_skip ?_
              refine xn_blk ?_
              refine xn_then ?_
              refine w_reg ?_
              refine wl_mv (.tmp 3) (.int .i64 ((j : Nat) : Int)) (fun _ => rfl) e3 rfl ?_
              refine wl_bin (fun x y => do eqGuard .add 3 (.tmp 21) (.const (.int .i64 (1))) x y; binOp .add 3 x y) (.tmp 21) (.const (.int .i64 (1))) (.int .i64 ((j : Nat) : Int)) (.int .i64 (1)) (.int .i64 ((j + 1 : Nat) : Int)) (fun _ => rfl) rfl rfl (add1r (k := j) (by omega) _ _ _) rfl ?_
              refine wl_mv (.tmp 22) (.int .i64 ((j + 1 : Nat) : Int)) (fun _ => rfl) rfl rfl ?_
              refine w_nil ?_
              exact xn_loop (s.size - (j + 1)) (by omega) ⟨j + 1, rfl, e0, rfl, by omega, by rw [nmA_in (by omega)] at hN; rw [← hN]; simp [hf31, hf32], M⟩
            | false =>
              refine w_reg ?_
              refine wl_mv (.tmp 0) (.string s) (fun _ => rfl) e0 rfl ?_
              refine wl_mv (.tmp 3) (.int .i64 ((j : Nat) : Int)) (fun _ => rfl) e3 rfl ?_
              refine wl_bin (fun x y => Instr.index 9 x y) (.tmp 23) (.tmp 24) (.string s) (.int .i64 ((j : Nat) : Int)) (.int .u8 (bt s (j))) (fun _ => rfl) rfl rfl (idx_b (by omega) _) rfl ?_
              refine wl_call 70 [(.tmp 25)] _ [.int .u8 (bt s (j))] (.bool false) rfl rfl (fun _ _ => by kernel_rfl) (ltr_c hf31 letter_n _) rfl ?_
              intro w31 hq
              replace M := M.trans hq
              clear hq
              refine wl_un (fun v => Op.unary .not v) (.tmp 26) (.bool false) (.bool true) (fun _ => rfl) rfl (by kernel_rfl) rfl ?_
              refine wl_mv (.tmp 27) (.bool true) (fun _ => rfl) rfl rfl ?_
              refine wl_mv (.tmp 0) (.string s) (fun _ => rfl) e0 rfl ?_
              refine wl_mv (.tmp 3) (.int .i64 ((j : Nat) : Int)) (fun _ => rfl) e3 rfl ?_
              refine wl_bin (fun x y => Instr.index 9 x y) (.tmp 29) (.tmp 30) (.string s) (.int .i64 ((j : Nat) : Int)) (.int .u8 (bt s (j))) (fun _ => rfl) rfl rfl (idx_b (by omega) _) rfl ?_
              refine wl_call 71 [(.tmp 31)] _ [.int .u8 (bt s (j))] (.bool false) rfl rfl (fun _ _ => by kernel_rfl) (dgt_c hf32 rdigit_n _) rfl ?_
              intro w32 hq
              replace M := M.trans hq
              clear hq
              refine wl_un (fun v => Op.unary .not v) (.tmp 32) (.bool false) (.bool true) (fun _ => rfl) rfl (by kernel_rfl) rfl ?_
              refine wl_pick (.tmp 28) (.tmp 33) (.const (.bool false)) true (.bool true) (fun _ => rfl) rfl rfl rfl ?_
              refine w_nil ?_
              refine xn_then ?_
              refine w_condT rfl ?_
              refine w_seq ?_
              refine w_reg ?_
              refine wl_mv (.const (.bool false)) (.bool false) (fun _ => rfl) rfl rfl ?_
              refine w_nil ?_
              refine xn_then ?_
              refine w_ret ?_
              refine xr_blk ?_
              refine xr_then ?_
              refine xr_then ?_
              refine xr_blk ?_
              refine xr_then ?_
              exact w_ret1 _ (.bool false) rfl rfl ⟨by rw [← hN, nmA_in (by omega)]; simp [hf31, hf32], M⟩
        | false =>
          have hf30p := of_decide_eq_false hf30
          refine w_reg ?_
          refine wl_mv (.tmp 3) (.int .i64 ((j : Nat) : Int)) (fun _ => rfl) e3 rfl ?_
          refine wl_mv (.tmp 0) (.string s) (fun _ => rfl) e0 rfl ?_
          refine wl_val (.int .i64 ((s.size : Nat) : Int)) (len_s _ _ s (by exact rfl) _ _ _ _ _ _) rfl ?_
          refine wl_bin (fun x y => do eqGuard .lss 3 (.tmp 17) (.tmp 19) x y; binOp .lss 3 x y) (.tmp 17) (.tmp 19) (.int .i64 ((j : Nat) : Int)) (.int .i64 ((s.size : Nat) : Int)) (.bool false) (fun _ => rfl) rfl rfl (ltN hf30 _ _ _) rfl ?_
          refine w_nil ?_
          refine xn_then ?_
          refine w_condF rfl ?_
          refine w_exit ?_
          refine xx_then ?_
          refine xx_then ?_
          refine xx_blk ?_
          refine xn_then ?_
          refine w_seq ?_
          refine w_reg ?_
          refine wl_mv (.const (.bool true)) (.bool true) (fun _ => rfl) rfl rfl ?_
          refine w_nil ?_
          refine xn_then ?_
          refine w_ret ?_
          exact w_ret1 _ (.bool true) rfl rfl ⟨by rw [← hN, nmA_end (by omega)], M⟩
      | false =>
        refine w_reg ?_
        refine wl_mv (.tmp 0) (.string s) (fun _ => rfl) rfl rfl ?_
        refine wl_bin (fun x y => do eqGuard .eql 9 (.tmp 4) (.const (.string ⟨#[]⟩)) x y; binOp .eql 9 x y) (.tmp 4) (.const (.string ⟨#[]⟩)) (.string s) (.string ⟨#[]⟩) (.bool false) (fun _ => rfl) rfl rfl (eqz9 hf0 _ _ _) rfl ?_
        refine wl_mv (.tmp 5) (.bool false) (fun _ => rfl) rfl rfl ?_
        refine wl_mv (.tmp 0) (.string s) (fun _ => rfl) rfl rfl ?_
        refine wl_val (.int .i64 ((s.size : Nat) : Int)) (len_s _ _ s (by exact rfl) _ _ _ _ _ _) rfl ?_
        refine wl_bin (fun x y => do eqGuard .gtr 3 (.tmp 8) (.const (.int .i64 (32))) x y; binOp .gtr 3 x y) (.tmp 8) (.const (.int .i64 (32))) (.int .i64 ((s.size : Nat) : Int)) (.int .i64 (32)) (.bool false) (fun _ => rfl) rfl rfl (gtN hf1 _ _ _) rfl ?_
        refine wl_pick (.tmp 6) (.const (.bool true)) (.tmp 9) false (.bool false) (fun _ => rfl) rfl rfl rfl ?_
        refine wl_mv (.tmp 10) (.bool false) (fun _ => rfl) rfl rfl ?_
        refine wl_mv (.tmp 0) (.string s) (fun _ => rfl) rfl rfl ?_
        refine wl_bin (fun x y => Instr.index 9 x y) (.tmp 12) (.const (.int .i64 (0))) (.string s) (.int .i64 (0)) (.int .u8 (bt s (0))) (fun _ => rfl) rfl rfl (idx0z (by omega) _) rfl ?_
        refine wl_call 70 [(.tmp 13)] _ [.int .u8 (bt s (0))] (.bool false) rfl rfl (fun _ _ => by kernel_rfl) (ltr_c hf2 letter_n _) rfl ?_
        intro w1 hq
        replace M := M.trans hq
        clear hq
        refine wl_un (fun v => Op.unary .not v) (.tmp 14) (.bool false) (.bool true) (fun _ => rfl) rfl (by kernel_rfl) rfl ?_
        refine wl_pick (.tmp 11) (.const (.bool true)) (.tmp 15) false (.bool true) (fun _ => rfl) rfl rfl rfl ?_
        refine w_nil ?_
        refine xn_then ?_
        refine w_condT rfl ?_
        refine w_seq ?_
        refine w_reg ?_
        refine wl_mv (.const (.bool false)) (.bool false) (fun _ => rfl) rfl rfl ?_
        refine w_nil ?_
        refine xn_then ?_
        refine w_ret ?_
        refine xr_then ?_
        exact w_ret1 _ (.bool false) rfl rfl ⟨by unfold nam; rw [hf0, hf1, hf2]; rfl, M⟩
end Go.Proofs.Ytbanldffohopiaa

