/-
  A part of the proof.
-/
import Derived.Test.YthgknegocfhdbaaDoorC5
/-
 Blank at any place, the document's Blank; Name and the document's; Symbol.
-/
namespace Go.Proofs.YthgknegocfhdbaaDoor
open Go.RowKit
theorem eq9 {a b : ByteArray} {r : Bool} (h : (a.toList == b.toList) = r) (x y : Operand) (w : World) : (do eqGuard .eql 9 x y (.string a) (.string b); binOp .eql 9 (.string a) (.string b)).run Tryd.prog w = .ok (.bool r) w := by
 subst h; simp [go_sem]
theorem eqz9 {s : ByteArray} {r : Bool} (h : decide (s.size = 0) = r) (x y : Operand) (w : World) : (do eqGuard .eql 9 x y (.string s) (.string ⟨#[]⟩); binOp .eql 9 (.string s) (.string ⟨#[]⟩)).run Tryd.prog w = .ok (.bool r) w := by
 refine eq9 (r := r) ?_ _ _ _
 rw [← h, Lib.toList_data, Lib.toList_data, Bool.eq_iff_iff, beq_iff_eq, decide_eq_true_iff, ← by8_len]
 exact List.length_eq_zero_iff.symm
theorem idx0z {s : ByteArray} (h : 0 < s.size) (w : World) : (Instr.index 9 (.string s) (.int .i64 (0))).run Tryd.prog w = .ok (.int .u8 (bt s (0))) w := idx_b (k := 0) h w
theorem ltr_c {f : Nat} {c : Int} {r : Bool} (h : ltr c = r) (hf : ∀ (c : Int) (w : World), Calls Tryd.prog f #[.int .u8 c] w fun e w' => e = .returned (.bool (ltr c)) ∧ Mo w w') (w : World) : Calls Tryd.prog f #[.int .u8 c] w fun e w' => e = .returned (.bool r) ∧ Mo w w' := h ▸ hf c w
theorem dgt_c {f : Nat} {c : Int} {r : Bool} (h : dgt c = r) (hf : ∀ (c : Int) (w : World), Calls Tryd.prog f #[.int .u8 c] w fun e w' => e = .returned (.bool (dgt c)) ∧ Mo w w') (w : World) : Calls Tryd.prog f #[.int .u8 c] w fun e w' => e = .returned (.bool r) ∧ Mo w w' := h ▸ hf c w
theorem rblank_n (s : ByteArray) (a : Nat) (w : World) (hs : s.size ≤ maxLen) (ha : a ≤ s.size) : Calls Tryd.prog 15 #[.string s, .int .i64 ((a : Nat) : Int)] w fun e w' => e = .returned (.int .i64 ((blk s a : Nat) : Int)) ∧ Mo w w' := by
 unfold maxLen at hs
 refine w_enter 70 Tryd.func15 Tryd.ntmps15 rfl rfl ?_
 have M : Mo w w := Mo.refl _
 refine w_seq (w_reg ?_)
 refine wl_m (.const (.int .i64 (0))) (.int .i64 (0)) ?_
 refine w_nil (xn_then (w_seq (w_seq (w_reg ?_))))
 refine wl_m (.tmp 1) (.int .i64 ((a : Nat) : Int)) ?_
 refine wl_b .lss 3 (.tmp 6) (.const (.int .i64 (0))) (.int .i64 ((a : Nat) : Int)) (.int .i64 (0)) (.bool false) (lt3_run (r := false) (decide_eq_false (by omega)) _ _ _) ?_
 refine wl_m (.tmp 7) (.bool false) ?_
 refine wl_m (.tmp 1) (.int .i64 ((a : Nat) : Int)) ?_
 refine wl_m (.tmp 0) (.string s) ?_
 refine wl_val (.int .i64 ((s.size : Nat) : Int)) (len_s _ _ s (by exact rfl) _ _ _ _ _ _) rfl ?_
 refine wl_b .gtr 3 (.tmp 9) (.tmp 11) (.int .i64 ((a : Nat) : Int)) (.int .i64 ((s.size : Nat) : Int)) (.bool false) (gt3_run (r := false) (decide_eq_false (by omega)) _ _ _) ?_
 refine wl_pick (.tmp 8) (.const (.bool true)) (.tmp 12) false (.bool false) (fun _ => rfl) rfl rfl rfl ?_
 refine w_nil (xn_then (w_condF rfl (w_skip (xn_then (w_seq (w_block ?_))))))
 refine w_loop (fun m l w1 => ∃ k : Nat, m = s.size - k ∧ look l 0 = .string s ∧ look l 1 = .int .i64 ((k : Nat) : Int) ∧ k ≤ s.size ∧ blk s k = blk s a ∧ Mo w w1) _ ⟨a, rfl, rfl, rfl, ha, rfl, M⟩ ?_
 clear M
 rintro m l wl ⟨k, rfl, e0, e1, hk, hB, M⟩
 refine w_seq (w_seq ?_)
 cases hf0 : decide (k < s.size) with
 | true =>
  have hf0p := of_decide_eq_true hf0
  refine w_reg ?_
  refine wl_mv (.tmp 1) (.int .i64 ((k : Nat) : Int)) (fun _ => rfl) e1 rfl ?_
  refine wl_mv (.tmp 0) (.string s) (fun _ => rfl) e0 rfl ?_
  refine wl_val (.int .i64 ((s.size : Nat) : Int)) (len_s _ _ s (by exact rfl) _ _ _ _ _ _) rfl ?_
  refine wl_b .lss 3 (.tmp 15) (.tmp 17) (.int .i64 ((k : Nat) : Int)) (.int .i64 ((s.size : Nat) : Int)) (.bool true) (ltN hf0 _ _ _) ?_
  refine w_nil (xn_then (w_condT rfl (w_skip (xn_then (w_block (w_seq (w_reg ?_)))))))
  refine wl_mv (.tmp 0) (.string s) (fun _ => rfl) e0 rfl ?_
  refine wl_mv (.tmp 1) (.int .i64 ((k : Nat) : Int)) (fun _ => rfl) e1 rfl ?_
  refine wl_bin (fun x y => Instr.index 9 x y) (.tmp 19) (.tmp 20) (.string s) (.int .i64 ((k : Nat) : Int)) (.int .u8 (bt s (k))) (fun _ => rfl) rfl rfl (idx_b (by omega) _) rfl ?_
  refine wl_m (.tmp 21) (.int .u8 (bt s (k))) ?_
  refine w_nil (xn_then (w_block (w_seq ?_)))
  cases hf1 : (bt s (k) == 32) with
  | true =>
   refine w_reg ?_
   refine wl_m (.tmp 5) (.int .u8 (bt s (k))) ?_
   refine wl_b .eql 5 (.tmp 24) (.const (.int .u8 (32))) (.int .u8 (bt s (k))) (.int .u8 (32)) (.bool true) (eq5r hf1 _ _ _) ?_
   refine wl_m (.tmp 25) (.bool true) ?_
   refine wl_skip rfl (wl_skip rfl ?_)
   refine wl_pick (.tmp 26) (.const (.bool true)) (.tmp 28) true (.bool true) (fun _ => rfl) rfl rfl rfl ?_
   refine wl_m (.tmp 29) (.bool true) ?_
   refine wl_skip rfl (wl_skip rfl ?_)
   refine wl_pick (.tmp 30) (.const (.bool true)) (.tmp 32) true (.bool true) (fun _ => rfl) rfl rfl rfl ?_
   refine wl_m (.tmp 33) (.bool true) ?_
   refine wl_skip rfl (wl_skip rfl ?_)
   refine wl_pick (.tmp 34) (.const (.bool true)) (.tmp 36) true (.bool true) (fun _ => rfl) rfl rfl rfl ?_
   refine wl_m (.tmp 37) (.bool true) ?_
   refine w_nil (xn_then (w_condT rfl (w_reg ?_)))
   refine wl_mv (.tmp 1) (.int .i64 ((k : Nat) : Int)) (fun _ => rfl) e1 rfl ?_
   refine wl_b .add 3 (.tmp 38) (.const (.int .i64 (1))) (.int .i64 ((k : Nat) : Int)) (.int .i64 (1)) (.int .i64 ((k + 1 : Nat) : Int)) (add1r (k := k) (by omega) _ _ _) ?_
   refine wl_m (.tmp 39) (.int .i64 ((k + 1 : Nat) : Int)) ?_
   refine w_nil (xn_blk (xn_blk ?_))
   exact xn_loop (s.size - (k + 1)) (by omega) ⟨k + 1, rfl, e0, rfl, by omega, (blk_b (by omega) (by simp [isb, hf1])).symm.trans hB, M⟩
  | false =>
   cases hf2 : (bt s (k) == 9) with
   | true =>
    refine w_reg ?_
    refine wl_m (.tmp 5) (.int .u8 (bt s (k))) ?_
    refine wl_b .eql 5 (.tmp 24) (.const (.int .u8 (32))) (.int .u8 (bt s (k))) (.int .u8 (32)) (.bool false) (eq5r hf1 _ _ _) ?_
    refine wl_m (.tmp 25) (.bool false) ?_
    refine wl_m (.tmp 5) (.int .u8 (bt s (k))) ?_
    refine wl_b .eql 5 (.tmp 27) (.const (.int .u8 (9))) (.int .u8 (bt s (k))) (.int .u8 (9)) (.bool true) (eq5r hf2 _ _ _) ?_
    refine wl_pick (.tmp 26) (.const (.bool true)) (.tmp 28) false (.bool true) (fun _ => rfl) rfl rfl rfl ?_
    refine wl_m (.tmp 29) (.bool true) ?_
    refine wl_skip rfl (wl_skip rfl ?_)
    refine wl_pick (.tmp 30) (.const (.bool true)) (.tmp 32) true (.bool true) (fun _ => rfl) rfl rfl rfl ?_
    refine wl_m (.tmp 33) (.bool true) ?_
    refine wl_skip rfl (wl_skip rfl ?_)
    refine wl_pick (.tmp 34) (.const (.bool true)) (.tmp 36) true (.bool true) (fun _ => rfl) rfl rfl rfl ?_
    refine wl_m (.tmp 37) (.bool true) ?_
    refine w_nil (xn_then (w_condT rfl (w_reg ?_)))
    refine wl_mv (.tmp 1) (.int .i64 ((k : Nat) : Int)) (fun _ => rfl) e1 rfl ?_
    refine wl_b .add 3 (.tmp 38) (.const (.int .i64 (1))) (.int .i64 ((k : Nat) : Int)) (.int .i64 (1)) (.int .i64 ((k + 1 : Nat) : Int)) (add1r (k := k) (by omega) _ _ _) ?_
    refine wl_m (.tmp 39) (.int .i64 ((k + 1 : Nat) : Int)) ?_
    refine w_nil (xn_blk (xn_blk ?_))
    exact xn_loop (s.size - (k + 1)) (by omega) ⟨k + 1, rfl, e0, rfl, by omega, (blk_b (by omega) (by simp [isb, hf1, hf2])).symm.trans hB, M⟩
   | false =>
    cases hf3 : (bt s (k) == 10) with
    | true =>
     refine w_reg ?_
     refine wl_m (.tmp 5) (.int .u8 (bt s (k))) ?_
     refine wl_b .eql 5 (.tmp 24) (.const (.int .u8 (32))) (.int .u8 (bt s (k))) (.int .u8 (32)) (.bool false) (eq5r hf1 _ _ _) ?_
     refine wl_m (.tmp 25) (.bool false) ?_
     refine wl_m (.tmp 5) (.int .u8 (bt s (k))) ?_
     refine wl_b .eql 5 (.tmp 27) (.const (.int .u8 (9))) (.int .u8 (bt s (k))) (.int .u8 (9)) (.bool false) (eq5r hf2 _ _ _) ?_
     refine wl_pick (.tmp 26) (.const (.bool true)) (.tmp 28) false (.bool false) (fun _ => rfl) rfl rfl rfl ?_
     refine wl_m (.tmp 29) (.bool false) ?_
     refine wl_m (.tmp 5) (.int .u8 (bt s (k))) ?_
     refine wl_b .eql 5 (.tmp 31) (.const (.int .u8 (10))) (.int .u8 (bt s (k))) (.int .u8 (10)) (.bool true) (eq5r hf3 _ _ _) ?_
     refine wl_pick (.tmp 30) (.const (.bool true)) (.tmp 32) false (.bool true) (fun _ => rfl) rfl rfl rfl ?_
     refine wl_m (.tmp 33) (.bool true) ?_
     refine wl_skip rfl (wl_skip rfl ?_)
     refine wl_pick (.tmp 34) (.const (.bool true)) (.tmp 36) true (.bool true) (fun _ => rfl) rfl rfl rfl ?_
     refine wl_m (.tmp 37) (.bool true) ?_
     refine w_nil (xn_then (w_condT rfl (w_reg ?_)))
     refine wl_mv (.tmp 1) (.int .i64 ((k : Nat) : Int)) (fun _ => rfl) e1 rfl ?_
     refine wl_b .add 3 (.tmp 38) (.const (.int .i64 (1))) (.int .i64 ((k : Nat) : Int)) (.int .i64 (1)) (.int .i64 ((k + 1 : Nat) : Int)) (add1r (k := k) (by omega) _ _ _) ?_
     refine wl_m (.tmp 39) (.int .i64 ((k + 1 : Nat) : Int)) ?_
     refine w_nil (xn_blk (xn_blk ?_))
     exact xn_loop (s.size - (k + 1)) (by omega) ⟨k + 1, rfl, e0, rfl, by omega, (blk_b (by omega) (by simp [isb, hf1, hf2, hf3])).symm.trans hB, M⟩
    | false =>
     cases hf4 : (bt s (k) == 13) with
     | true =>
      refine w_reg ?_
      refine wl_m (.tmp 5) (.int .u8 (bt s (k))) ?_
      refine wl_b .eql 5 (.tmp 24) (.const (.int .u8 (32))) (.int .u8 (bt s (k))) (.int .u8 (32)) (.bool false) (eq5r hf1 _ _ _) ?_
      refine wl_m (.tmp 25) (.bool false) ?_
      refine wl_m (.tmp 5) (.int .u8 (bt s (k))) ?_
      refine wl_b .eql 5 (.tmp 27) (.const (.int .u8 (9))) (.int .u8 (bt s (k))) (.int .u8 (9)) (.bool false) (eq5r hf2 _ _ _) ?_
      refine wl_pick (.tmp 26) (.const (.bool true)) (.tmp 28) false (.bool false) (fun _ => rfl) rfl rfl rfl ?_
      refine wl_m (.tmp 29) (.bool false) ?_
      refine wl_m (.tmp 5) (.int .u8 (bt s (k))) ?_
      refine wl_b .eql 5 (.tmp 31) (.const (.int .u8 (10))) (.int .u8 (bt s (k))) (.int .u8 (10)) (.bool false) (eq5r hf3 _ _ _) ?_
      refine wl_pick (.tmp 30) (.const (.bool true)) (.tmp 32) false (.bool false) (fun _ => rfl) rfl rfl rfl ?_
      refine wl_m (.tmp 33) (.bool false) ?_
      refine wl_m (.tmp 5) (.int .u8 (bt s (k))) ?_
      refine wl_b .eql 5 (.tmp 35) (.const (.int .u8 (13))) (.int .u8 (bt s (k))) (.int .u8 (13)) (.bool true) (eq5r hf4 _ _ _) ?_
      refine wl_pick (.tmp 34) (.const (.bool true)) (.tmp 36) false (.bool true) (fun _ => rfl) rfl rfl rfl ?_
      refine wl_m (.tmp 37) (.bool true) ?_
      refine w_nil (xn_then (w_condT rfl (w_reg ?_)))
      refine wl_mv (.tmp 1) (.int .i64 ((k : Nat) : Int)) (fun _ => rfl) e1 rfl ?_
      refine wl_b .add 3 (.tmp 38) (.const (.int .i64 (1))) (.int .i64 ((k : Nat) : Int)) (.int .i64 (1)) (.int .i64 ((k + 1 : Nat) : Int)) (add1r (k := k) (by omega) _ _ _) ?_
      refine wl_m (.tmp 39) (.int .i64 ((k + 1 : Nat) : Int)) ?_
      refine w_nil (xn_blk (xn_blk ?_))
      exact xn_loop (s.size - (k + 1)) (by omega) ⟨k + 1, rfl, e0, rfl, by omega, (blk_b (by omega) (by simp [isb, hf1, hf2, hf3, hf4])).symm.trans hB, M⟩
     | false =>
      refine w_reg ?_
      refine wl_m (.tmp 5) (.int .u8 (bt s (k))) ?_
      refine wl_b .eql 5 (.tmp 24) (.const (.int .u8 (32))) (.int .u8 (bt s (k))) (.int .u8 (32)) (.bool false) (eq5r hf1 _ _ _) ?_
      refine wl_m (.tmp 25) (.bool false) ?_
      refine wl_m (.tmp 5) (.int .u8 (bt s (k))) ?_
      refine wl_b .eql 5 (.tmp 27) (.const (.int .u8 (9))) (.int .u8 (bt s (k))) (.int .u8 (9)) (.bool false) (eq5r hf2 _ _ _) ?_
      refine wl_pick (.tmp 26) (.const (.bool true)) (.tmp 28) false (.bool false) (fun _ => rfl) rfl rfl rfl ?_
      refine wl_m (.tmp 29) (.bool false) ?_
      refine wl_m (.tmp 5) (.int .u8 (bt s (k))) ?_
      refine wl_b .eql 5 (.tmp 31) (.const (.int .u8 (10))) (.int .u8 (bt s (k))) (.int .u8 (10)) (.bool false) (eq5r hf3 _ _ _) ?_
      refine wl_pick (.tmp 30) (.const (.bool true)) (.tmp 32) false (.bool false) (fun _ => rfl) rfl rfl rfl ?_
      refine wl_m (.tmp 33) (.bool false) ?_
      refine wl_m (.tmp 5) (.int .u8 (bt s (k))) ?_
      refine wl_b .eql 5 (.tmp 35) (.const (.int .u8 (13))) (.int .u8 (bt s (k))) (.int .u8 (13)) (.bool false) (eq5r hf4 _ _ _) ?_
      refine wl_pick (.tmp 34) (.const (.bool true)) (.tmp 36) false (.bool false) (fun _ => rfl) rfl rfl rfl ?_
      refine wl_m (.tmp 37) (.bool false) ?_
      refine w_nil (xn_then (w_condF rfl (w_seq ?_)))
      cases hf5 : (bt s (k) == 47) with
      | true =>
       cases hf6 : decide (k + 1 < s.size) with
       | true =>
        have hf6p := of_decide_eq_true hf6
        cases hf7 : (bt s (k + 1) == 47) with
        | true =>
         refine w_reg ?_
         refine wl_m (.tmp 5) (.int .u8 (bt s (k))) ?_
         refine wl_b .eql 5 (.tmp 41) (.const (.int .u8 (47))) (.int .u8 (bt s (k))) (.int .u8 (47)) (.bool true) (eq5r hf5 _ _ _) ?_
         refine wl_m (.tmp 42) (.bool true) ?_
         refine wl_mv (.tmp 1) (.int .i64 ((k : Nat) : Int)) (fun _ => rfl) e1 rfl ?_
         refine wl_b .add 3 (.tmp 44) (.const (.int .i64 (1))) (.int .i64 ((k : Nat) : Int)) (.int .i64 (1)) (.int .i64 ((k + 1 : Nat) : Int)) (add1r (k := k) (by omega) _ _ _) ?_
         refine wl_mv (.tmp 0) (.string s) (fun _ => rfl) e0 rfl ?_
         refine wl_val (.int .i64 ((s.size : Nat) : Int)) (len_s _ _ s (by exact rfl) _ _ _ _ _ _) rfl ?_
         refine wl_b .lss 3 (.tmp 45) (.tmp 47) (.int .i64 ((k + 1 : Nat) : Int)) (.int .i64 ((s.size : Nat) : Int)) (.bool true) (ltN hf6 _ _ _) ?_
         refine wl_pick (.tmp 43) (.tmp 48) (.const (.bool false)) true (.bool true) (fun _ => rfl) rfl rfl rfl ?_
         refine wl_m (.tmp 49) (.bool true) ?_
         refine wl_mv (.tmp 0) (.string s) (fun _ => rfl) e0 rfl ?_
         refine wl_mv (.tmp 1) (.int .i64 ((k : Nat) : Int)) (fun _ => rfl) e1 rfl ?_
         refine wl_b .add 3 (.tmp 52) (.const (.int .i64 (1))) (.int .i64 ((k : Nat) : Int)) (.int .i64 (1)) (.int .i64 ((k + 1 : Nat) : Int)) (add1r (k := k) (by omega) _ _ _) ?_
         refine wl_bin (fun x y => Instr.index 9 x y) (.tmp 51) (.tmp 53) (.string s) (.int .i64 ((k + 1 : Nat) : Int)) (.int .u8 (bt s (k + 1))) (fun _ => rfl) rfl rfl (idx_b (by omega) _) rfl ?_
         refine wl_b .eql 5 (.tmp 54) (.const (.int .u8 (47))) (.int .u8 (bt s (k + 1))) (.int .u8 (47)) (.bool true) (eq5r hf7 _ _ _) ?_
         refine wl_pick (.tmp 50) (.tmp 55) (.const (.bool false)) true (.bool true) (fun _ => rfl) rfl rfl rfl ?_
         refine wl_m (.tmp 56) (.bool true) ?_
         refine w_nil (xn_then (w_condT rfl (w_block ?_)))
         have hstep : blk s k = blk s (lnx s (k + 1)) := blk_c (by omega) (by simp [isb, hf1, hf2, hf3, hf4]) (by rw [hf5, hf7]; rfl)
         have hn10 : (bt s k == 10) = false := by rw [eq_of_beq hf5]; rfl
         have hnk : lnx s k = lnx s (k + 1) := lnx_on (by omega) hn10
         refine w_loop (fun m l w1 => ∃ j : Nat, m = s.size - j ∧ look l 0 = .string s ∧ look l 1 = .int .i64 ((j : Nat) : Int) ∧ k ≤ j ∧ j ≤ s.size ∧ lnx s j = lnx s (k + 1) ∧ Mo w w1) _ ⟨k, rfl, e0, e1, Nat.le_refl _, by omega, hnk, M⟩ ?_
         clear M
         rintro m l2 wl2 ⟨j, rfl, g0, g1, hkj, hj, hN, M⟩
         refine w_seq (w_seq ?_)
         cases hf40 : decide (j < s.size) with
         | true =>
          have hf40p := of_decide_eq_true hf40
          cases hf41 : (bt s (j) == 10) with
          | true =>
           refine w_reg ?_
           refine wl_mv (.tmp 1) (.int .i64 ((j : Nat) : Int)) (fun _ => rfl) g1 rfl ?_
           refine wl_mv (.tmp 0) (.string s) (fun _ => rfl) g0 rfl ?_
           refine wl_val (.int .i64 ((s.size : Nat) : Int)) (len_s _ _ s (by exact rfl) _ _ _ _ _ _) rfl ?_
           refine wl_b .lss 3 (.tmp 57) (.tmp 59) (.int .i64 ((j : Nat) : Int)) (.int .i64 ((s.size : Nat) : Int)) (.bool true) (ltN hf40 _ _ _) ?_
           refine wl_m (.tmp 60) (.bool true) ?_
           refine wl_mv (.tmp 0) (.string s) (fun _ => rfl) g0 rfl ?_
           refine wl_mv (.tmp 1) (.int .i64 ((j : Nat) : Int)) (fun _ => rfl) g1 rfl ?_
           refine wl_bin (fun x y => Instr.index 9 x y) (.tmp 62) (.tmp 63) (.string s) (.int .i64 ((j : Nat) : Int)) (.int .u8 (bt s (j))) (fun _ => rfl) rfl rfl (idx_b (by omega) _) rfl ?_
           refine wl_b .neq 5 (.tmp 64) (.const (.int .u8 (10))) (.int .u8 (bt s (j))) (.int .u8 (10)) (.bool false) (ne5r hf41 _ _ _) ?_
           refine wl_pick (.tmp 61) (.tmp 65) (.const (.bool false)) true (.bool false) (fun _ => rfl) rfl rfl rfl ?_
           refine w_nil (xn_then (w_condF rfl (w_exit (xx_then (xx_then (xx_blk (xn_blk (xn_blk ?_))))))))
           have hjn : j = lnx s (k + 1) := by rw [← hN]; exact (lnx_at hf41).symm
           rw [hjn] at g1
           exact xn_loop (s.size - lnx s (k + 1)) (by have := lnx_ge' s (k + 1); omega) ⟨lnx s (k + 1), rfl, g0, g1, lnx_le' (by omega), hstep.symm.trans hB, M⟩
          | false =>
           refine w_reg ?_
           refine wl_mv (.tmp 1) (.int .i64 ((j : Nat) : Int)) (fun _ => rfl) g1 rfl ?_
           refine wl_mv (.tmp 0) (.string s) (fun _ => rfl) g0 rfl ?_
           refine wl_val (.int .i64 ((s.size : Nat) : Int)) (len_s _ _ s (by exact rfl) _ _ _ _ _ _) rfl ?_
           refine wl_b .lss 3 (.tmp 57) (.tmp 59) (.int .i64 ((j : Nat) : Int)) (.int .i64 ((s.size : Nat) : Int)) (.bool true) (ltN hf40 _ _ _) ?_
           refine wl_m (.tmp 60) (.bool true) ?_
           refine wl_mv (.tmp 0) (.string s) (fun _ => rfl) g0 rfl ?_
           refine wl_mv (.tmp 1) (.int .i64 ((j : Nat) : Int)) (fun _ => rfl) g1 rfl ?_
           refine wl_bin (fun x y => Instr.index 9 x y) (.tmp 62) (.tmp 63) (.string s) (.int .i64 ((j : Nat) : Int)) (.int .u8 (bt s (j))) (fun _ => rfl) rfl rfl (idx_b (by omega) _) rfl ?_
           refine wl_b .neq 5 (.tmp 64) (.const (.int .u8 (10))) (.int .u8 (bt s (j))) (.int .u8 (10)) (.bool true) (ne5r hf41 _ _ _) ?_
           refine wl_pick (.tmp 61) (.tmp 65) (.const (.bool false)) true (.bool true) (fun _ => rfl) rfl rfl rfl ?_
           refine w_nil (xn_then (w_condT rfl (w_skip (xn_then (w_block (w_reg ?_))))))
           refine wl_mv (.tmp 1) (.int .i64 ((j : Nat) : Int)) (fun _ => rfl) g1 rfl ?_
           refine wl_b .add 3 (.tmp 67) (.const (.int .i64 (1))) (.int .i64 ((j : Nat) : Int)) (.int .i64 (1)) (.int .i64 ((j + 1 : Nat) : Int)) (add1r (k := j) (by omega) _ _ _) ?_
           refine wl_m (.tmp 68) (.int .i64 ((j + 1 : Nat) : Int)) ?_
           refine w_nil (xn_blk ?_)
           exact xn_loop (s.size - (j + 1)) (by omega) ⟨j + 1, rfl, g0, rfl, by omega, by omega, (lnx_on (by omega) hf41).symm.trans hN, M⟩
         | false =>
          have hf40p := of_decide_eq_false hf40
          refine w_reg ?_
          refine wl_mv (.tmp 1) (.int .i64 ((j : Nat) : Int)) (fun _ => rfl) g1 rfl ?_
          refine wl_mv (.tmp 0) (.string s) (fun _ => rfl) g0 rfl ?_
          refine wl_val (.int .i64 ((s.size : Nat) : Int)) (len_s _ _ s (by exact rfl) _ _ _ _ _ _) rfl ?_
          refine wl_b .lss 3 (.tmp 57) (.tmp 59) (.int .i64 ((j : Nat) : Int)) (.int .i64 ((s.size : Nat) : Int)) (.bool false) (ltN hf40 _ _ _) ?_
          refine wl_m (.tmp 60) (.bool false) ?_
          refine wl_skip rfl (wl_skip rfl (wl_skip rfl (wl_skip rfl ?_)))
          refine wl_pick (.tmp 61) (.tmp 65) (.const (.bool false)) false (.bool false) (fun _ => rfl) rfl rfl rfl ?_
          refine w_nil (xn_then (w_condF rfl (w_exit (xx_then (xx_then (xx_blk (xn_blk (xn_blk ?_))))))))
          have hjn : j = lnx s (k + 1) := by rw [← hN]; exact (lnx_end (by omega)).symm
          rw [hjn] at g1
          exact xn_loop (s.size - lnx s (k + 1)) (by have := lnx_ge' s (k + 1); omega) ⟨lnx s (k + 1), rfl, g0, g1, lnx_le' (by omega), hstep.symm.trans hB, M⟩
        | false =>
         refine w_reg ?_
         refine wl_m (.tmp 5) (.int .u8 (bt s (k))) ?_
         refine wl_b .eql 5 (.tmp 41) (.const (.int .u8 (47))) (.int .u8 (bt s (k))) (.int .u8 (47)) (.bool true) (eq5r hf5 _ _ _) ?_
         refine wl_m (.tmp 42) (.bool true) ?_
         refine wl_mv (.tmp 1) (.int .i64 ((k : Nat) : Int)) (fun _ => rfl) e1 rfl ?_
         refine wl_b .add 3 (.tmp 44) (.const (.int .i64 (1))) (.int .i64 ((k : Nat) : Int)) (.int .i64 (1)) (.int .i64 ((k + 1 : Nat) : Int)) (add1r (k := k) (by omega) _ _ _) ?_
         refine wl_mv (.tmp 0) (.string s) (fun _ => rfl) e0 rfl ?_
         refine wl_val (.int .i64 ((s.size : Nat) : Int)) (len_s _ _ s (by exact rfl) _ _ _ _ _ _) rfl ?_
         refine wl_b .lss 3 (.tmp 45) (.tmp 47) (.int .i64 ((k + 1 : Nat) : Int)) (.int .i64 ((s.size : Nat) : Int)) (.bool true) (ltN hf6 _ _ _) ?_
         refine wl_pick (.tmp 43) (.tmp 48) (.const (.bool false)) true (.bool true) (fun _ => rfl) rfl rfl rfl ?_
         refine wl_m (.tmp 49) (.bool true) ?_
         refine wl_mv (.tmp 0) (.string s) (fun _ => rfl) e0 rfl ?_
         refine wl_mv (.tmp 1) (.int .i64 ((k : Nat) : Int)) (fun _ => rfl) e1 rfl ?_
         refine wl_b .add 3 (.tmp 52) (.const (.int .i64 (1))) (.int .i64 ((k : Nat) : Int)) (.int .i64 (1)) (.int .i64 ((k + 1 : Nat) : Int)) (add1r (k := k) (by omega) _ _ _) ?_
         refine wl_bin (fun x y => Instr.index 9 x y) (.tmp 51) (.tmp 53) (.string s) (.int .i64 ((k + 1 : Nat) : Int)) (.int .u8 (bt s (k + 1))) (fun _ => rfl) rfl rfl (idx_b (by omega) _) rfl ?_
         refine wl_b .eql 5 (.tmp 54) (.const (.int .u8 (47))) (.int .u8 (bt s (k + 1))) (.int .u8 (47)) (.bool false) (eq5r hf7 _ _ _) ?_
         refine wl_pick (.tmp 50) (.tmp 55) (.const (.bool false)) true (.bool false) (fun _ => rfl) rfl rfl rfl ?_
         refine wl_m (.tmp 56) (.bool false) ?_
         refine w_nil (xn_then (w_condF rfl (w_seq (w_reg ?_))))
         refine wl_mv (.tmp 1) (.int .i64 ((k : Nat) : Int)) (fun _ => rfl) e1 rfl ?_
         refine wl_m (.tmp 22) (.int .i64 ((k : Nat) : Int)) ?_
         refine w_nil (xn_then (w_ret (xr_blk (xr_blk (xr_then (xr_blk (xr_then ?_)))))))
         exact w_ret1 _ (.int .i64 ((k : Nat) : Int)) rfl rfl ⟨by rw [← hB, blk_n (by simp [isb, hf1, hf2, hf3, hf4]) (by rw [hf5, hf7]; rfl)], M⟩
       | false =>
        have hf6p := of_decide_eq_false hf6
        refine w_reg ?_
        refine wl_m (.tmp 5) (.int .u8 (bt s (k))) ?_
        refine wl_b .eql 5 (.tmp 41) (.const (.int .u8 (47))) (.int .u8 (bt s (k))) (.int .u8 (47)) (.bool true) (eq5r hf5 _ _ _) ?_
        refine wl_m (.tmp 42) (.bool true) ?_
        refine wl_mv (.tmp 1) (.int .i64 ((k : Nat) : Int)) (fun _ => rfl) e1 rfl ?_
        refine wl_b .add 3 (.tmp 44) (.const (.int .i64 (1))) (.int .i64 ((k : Nat) : Int)) (.int .i64 (1)) (.int .i64 ((k + 1 : Nat) : Int)) (add1r (k := k) (by omega) _ _ _) ?_
        refine wl_mv (.tmp 0) (.string s) (fun _ => rfl) e0 rfl ?_
        refine wl_val (.int .i64 ((s.size : Nat) : Int)) (len_s _ _ s (by exact rfl) _ _ _ _ _ _) rfl ?_
        refine wl_b .lss 3 (.tmp 45) (.tmp 47) (.int .i64 ((k + 1 : Nat) : Int)) (.int .i64 ((s.size : Nat) : Int)) (.bool false) (ltN hf6 _ _ _) ?_
        refine wl_pick (.tmp 43) (.tmp 48) (.const (.bool false)) true (.bool false) (fun _ => rfl) rfl rfl rfl ?_
        refine wl_m (.tmp 49) (.bool false) ?_
        refine wl_skip rfl (wl_skip rfl (wl_skip rfl (wl_skip rfl (wl_skip rfl ?_))))
        refine wl_pick (.tmp 50) (.tmp 55) (.const (.bool false)) false (.bool false) (fun _ => rfl) rfl rfl rfl ?_
        refine wl_m (.tmp 56) (.bool false) ?_
        refine w_nil (xn_then (w_condF rfl (w_seq (w_reg ?_))))
        refine wl_mv (.tmp 1) (.int .i64 ((k : Nat) : Int)) (fun _ => rfl) e1 rfl ?_
        refine wl_m (.tmp 22) (.int .i64 ((k : Nat) : Int)) ?_
        refine w_nil (xn_then (w_ret (xr_blk (xr_blk (xr_then (xr_blk (xr_then ?_)))))))
        exact w_ret1 _ (.int .i64 ((k : Nat) : Int)) rfl rfl ⟨by rw [← hB, blk_n (by simp [isb, hf1, hf2, hf3, hf4]) (by rw [bt_out (k := k + 1) (by omega)]; simp)], M⟩
      | false =>
       refine w_reg ?_
       refine wl_m (.tmp 5) (.int .u8 (bt s (k))) ?_
       refine wl_b .eql 5 (.tmp 41) (.const (.int .u8 (47))) (.int .u8 (bt s (k))) (.int .u8 (47)) (.bool false) (eq5r hf5 _ _ _) ?_
       refine wl_m (.tmp 42) (.bool false) ?_
       refine wl_skip rfl (wl_skip rfl (wl_skip rfl (wl_skip rfl (wl_skip rfl ?_))))
       refine wl_pick (.tmp 43) (.tmp 48) (.const (.bool false)) false (.bool false) (fun _ => rfl) rfl rfl rfl ?_
       refine wl_m (.tmp 49) (.bool false) ?_
       refine wl_skip rfl (wl_skip rfl (wl_skip rfl (wl_skip rfl (wl_skip rfl ?_))))
       refine wl_pick (.tmp 50) (.tmp 55) (.const (.bool false)) false (.bool false) (fun _ => rfl) rfl rfl rfl ?_
       refine wl_m (.tmp 56) (.bool false) ?_
       refine w_nil (xn_then (w_condF rfl (w_seq (w_reg ?_))))
       refine wl_mv (.tmp 1) (.int .i64 ((k : Nat) : Int)) (fun _ => rfl) e1 rfl ?_
       refine wl_m (.tmp 22) (.int .i64 ((k : Nat) : Int)) ?_
       refine w_nil (xn_then (w_ret (xr_blk (xr_blk (xr_then (xr_blk (xr_then ?_)))))))
       exact w_ret1 _ (.int .i64 ((k : Nat) : Int)) rfl rfl ⟨by rw [← hB, blk_n (by simp [isb, hf1, hf2, hf3, hf4]) (by rw [hf5]; rfl)], M⟩
 | false =>
  have hf0p := of_decide_eq_false hf0
  refine w_reg ?_
  refine wl_mv (.tmp 1) (.int .i64 ((k : Nat) : Int)) (fun _ => rfl) e1 rfl ?_
  refine wl_mv (.tmp 0) (.string s) (fun _ => rfl) e0 rfl ?_
  refine wl_val (.int .i64 ((s.size : Nat) : Int)) (len_s _ _ s (by exact rfl) _ _ _ _ _ _) rfl ?_
  refine wl_b .lss 3 (.tmp 15) (.tmp 17) (.int .i64 ((k : Nat) : Int)) (.int .i64 ((s.size : Nat) : Int)) (.bool false) (ltN hf0 _ _ _) ?_
  refine w_nil (xn_then (w_condF rfl (w_exit (xx_then (xx_then (xx_blk (xn_then (w_seq (w_reg ?_)))))))))
  refine wl_mv (.tmp 1) (.int .i64 ((k : Nat) : Int)) (fun _ => rfl) e1 rfl ?_
  refine wl_m (.tmp 69) (.int .i64 ((k : Nat) : Int)) ?_
  refine w_nil (xn_then (w_ret ?_))
  exact w_ret1 _ (.int .i64 ((k : Nat) : Int)) rfl rfl ⟨by rw [← hB, blk_end (by omega)], M⟩
def nmA (s : ByteArray) (k : Nat) : Bool := if h : k < s.size then (ltr (bt s k) || dgt (bt s k)) && nmA s (k + 1) else true
termination_by s.size - k
decreasing_by omega
theorem nmA_in {s : ByteArray} {k : Nat} (h : k < s.size) : nmA s k = ((ltr (bt s k) || dgt (bt s k)) && nmA s (k + 1)) := by rw [nmA, dif_pos h]
theorem nmA_end {s : ByteArray} {k : Nat} (h : ¬ k < s.size) : nmA s k = true := by rw [nmA, dif_neg h]
def nam (s : ByteArray) : Bool := !decide (s.size = 0) && !decide (32 < s.size) && ltr (bt s 0) && nmA s 0
theorem name_n (s : ByteArray) (w : World) (hs : s.size ≤ maxLen) : Calls Tryd.prog 16 #[.string s] w fun e w' => e = .returned (.bool (nam s)) ∧ Mo w w' := by
 unfold maxLen at hs
 refine w_enter 35 Tryd.func16 Tryd.ntmps16 rfl rfl ?_
 have M : Mo w w := Mo.refl _
 refine w_seq (w_reg ?_)
 refine wl_m (.const (.bool false)) (.bool false) ?_
 refine w_nil (xn_then (w_seq (w_seq ?_)))
 cases hf0 : decide (s.size = 0) with
 | true =>
  have hf0p := of_decide_eq_true hf0
  refine w_reg ?_
  refine wl_m (.tmp 0) (.string s) ?_
  refine wl_b .eql 9 (.tmp 4) (.const (.string ⟨#[]⟩)) (.string s) (.string ⟨#[]⟩) (.bool true) (eqz9 hf0 _ _ _) ?_
  refine wl_m (.tmp 5) (.bool true) ?_
  refine wl_skip rfl (wl_skip rfl (wl_skip rfl ?_))
  refine wl_pick (.tmp 6) (.const (.bool true)) (.tmp 9) true (.bool true) (fun _ => rfl) rfl rfl rfl ?_
  refine wl_m (.tmp 10) (.bool true) ?_
  refine wl_skip rfl (wl_skip rfl (wl_skip rfl (wl_skip rfl ?_)))
  refine wl_pick (.tmp 11) (.const (.bool true)) (.tmp 15) true (.bool true) (fun _ => rfl) rfl rfl rfl ?_
  refine w_nil (xn_then (w_condT rfl (w_seq (w_reg ?_))))
  refine wl_m (.const (.bool false)) (.bool false) ?_
  refine w_nil (xn_then (w_ret (xr_then ?_)))
  exact w_ret1 _ (.bool false) rfl rfl ⟨by unfold nam; rw [hf0]; rfl, M⟩
 | false =>
  have hf0p := of_decide_eq_false hf0
  cases hf1 : decide (32 < s.size) with
  | true =>
   have hf1p := of_decide_eq_true hf1
   refine w_reg ?_
   refine wl_m (.tmp 0) (.string s) ?_
   refine wl_b .eql 9 (.tmp 4) (.const (.string ⟨#[]⟩)) (.string s) (.string ⟨#[]⟩) (.bool false) (eqz9 hf0 _ _ _) ?_
   refine wl_m (.tmp 5) (.bool false) ?_
   refine wl_m (.tmp 0) (.string s) ?_
   refine wl_val (.int .i64 ((s.size : Nat) : Int)) (len_s _ _ s (by exact rfl) _ _ _ _ _ _) rfl ?_
   refine wl_b .gtr 3 (.tmp 8) (.const (.int .i64 (32))) (.int .i64 ((s.size : Nat) : Int)) (.int .i64 (32)) (.bool true) (gtN hf1 _ _ _) ?_
   refine wl_pick (.tmp 6) (.const (.bool true)) (.tmp 9) false (.bool true) (fun _ => rfl) rfl rfl rfl ?_
   refine wl_m (.tmp 10) (.bool true) ?_
   refine wl_skip rfl (wl_skip rfl (wl_skip rfl (wl_skip rfl ?_)))
   refine wl_pick (.tmp 11) (.const (.bool true)) (.tmp 15) true (.bool true) (fun _ => rfl) rfl rfl rfl ?_
   refine w_nil (xn_then (w_condT rfl (w_seq (w_reg ?_))))
   refine wl_m (.const (.bool false)) (.bool false) ?_
   refine w_nil (xn_then (w_ret (xr_then ?_)))
   exact w_ret1 _ (.bool false) rfl rfl ⟨by unfold nam; rw [hf0, hf1]; rfl, M⟩
  | false =>
   have hf1p := of_decide_eq_false hf1
   cases hf2 : ltr (bt s (0)) with
   | true =>
    refine w_reg ?_
    refine wl_m (.tmp 0) (.string s) ?_
    refine wl_b .eql 9 (.tmp 4) (.const (.string ⟨#[]⟩)) (.string s) (.string ⟨#[]⟩) (.bool false) (eqz9 hf0 _ _ _) ?_
    refine wl_m (.tmp 5) (.bool false) ?_
    refine wl_m (.tmp 0) (.string s) ?_
    refine wl_val (.int .i64 ((s.size : Nat) : Int)) (len_s _ _ s (by exact rfl) _ _ _ _ _ _) rfl ?_
    refine wl_b .gtr 3 (.tmp 8) (.const (.int .i64 (32))) (.int .i64 ((s.size : Nat) : Int)) (.int .i64 (32)) (.bool false) (gtN hf1 _ _ _) ?_
    refine wl_pick (.tmp 6) (.const (.bool true)) (.tmp 9) false (.bool false) (fun _ => rfl) rfl rfl rfl ?_
    refine wl_m (.tmp 10) (.bool false) ?_
    refine wl_m (.tmp 0) (.string s) ?_
    refine wl_bin (fun x y => Instr.index 9 x y) (.tmp 12) (.const (.int .i64 (0))) (.string s) (.int .i64 (0)) (.int .u8 (bt s (0))) (fun _ => rfl) rfl rfl (idx0z (by omega) _) rfl ?_
    refine wl_call 37 [(.tmp 13)] _ [.int .u8 (bt s (0))] (.bool true) rfl rfl (fun _ _ => by kernel_rfl) (ltr_c hf2 isLetter_n _) rfl ?_
    intro w1 hq
    replace M := M.trans hq
    clear hq
    refine wl_un (fun v => Op.unary .not v) (.tmp 14) (.bool true) (.bool false) (fun _ => rfl) rfl (by kernel_rfl) rfl ?_
    refine wl_pick (.tmp 11) (.const (.bool true)) (.tmp 15) false (.bool false) (fun _ => rfl) rfl rfl rfl ?_
    refine w_nil (xn_then (w_condF rfl (w_skip (xn_then (w_seq (w_seq (w_reg ?_)))))))
    refine wl_m (.tmp 0) (.string s) ?_
    refine wl_val (.int .i64 ((s.size : Nat) : Int)) (len_s _ _ s (by exact rfl) _ _ _ _ _ _) rfl ?_
    refine wl_m (.const (.int .i64 (0))) (.int .i64 (0)) ?_
    refine w_nil (xn_then (w_block ?_))
    have hnam : nam s = nmA s 0 := by unfold nam; rw [hf0, hf1, hf2]; rfl
    refine w_loop (fun m l w1 => ∃ j : Nat, m = s.size - j ∧ look l 0 = .string s ∧ look l 19 = .int .i64 ((j : Nat) : Int) ∧ look l 18 = .int .i64 ((s.size : Nat) : Int) ∧ j ≤ s.size ∧ nmA s j = nam s ∧ Mo w w1) _ ⟨0, rfl, rfl, rfl, rfl, by omega, hnam.symm, M⟩ ?_
    clear M
    rintro m l wl ⟨j, rfl, e0, e3, e18, hj, hN, M⟩
    refine w_seq ?_
    cases hf30 : decide (j < s.size) with
    | true =>
     have hf30p := of_decide_eq_true hf30
     refine w_reg ?_
     refine wl_bin (fun x y => do eqGuard .lss 3 (.tmp 19) (.tmp 18) x y; binOp .lss 3 x y) (.tmp 19) (.tmp 18) (.int .i64 ((j : Nat) : Int)) (.int .i64 ((s.size : Nat) : Int)) (.bool true) (fun _ => rfl) e3 e18 (ltN hf30 _ _ _) rfl ?_
     refine w_nil (xn_then (w_seq (w_condT rfl (w_skip (xn_then (w_seq (w_block (w_seq (w_reg ?_)))))))))
     refine wl_mv (.tmp 19) (.int .i64 ((j : Nat) : Int)) (fun _ => rfl) e3 rfl ?_
     refine wl_m (.tmp 21) (.int .i64 ((j : Nat) : Int)) ?_
     refine w_nil (xn_then (w_seq ?_))
     cases hf31 : ltr (bt s (j)) with
     | true =>
      refine w_reg ?_
      refine wl_mv (.tmp 0) (.string s) (fun _ => rfl) e0 rfl ?_
      refine wl_m (.tmp 3) (.int .i64 ((j : Nat) : Int)) ?_
      refine wl_bin (fun x y => Instr.index 9 x y) (.tmp 22) (.tmp 23) (.string s) (.int .i64 ((j : Nat) : Int)) (.int .u8 (bt s (j))) (fun _ => rfl) rfl rfl (idx_b (by omega) _) rfl ?_
      refine wl_call 37 [(.tmp 24)] _ [.int .u8 (bt s (j))] (.bool true) rfl rfl (fun _ _ => by kernel_rfl) (ltr_c hf31 isLetter_n _) rfl ?_
      intro w31 hq
      replace M := M.trans hq
      clear hq
      refine wl_un (fun v => Op.unary .not v) (.tmp 25) (.bool true) (.bool false) (fun _ => rfl) rfl (by kernel_rfl) rfl ?_
      refine wl_m (.tmp 26) (.bool false) ?_
      refine wl_skip rfl (wl_skip rfl (wl_skip rfl (wl_skip rfl (wl_skip rfl ?_))))
      refine wl_pick (.tmp 27) (.tmp 32) (.const (.bool false)) false (.bool false) (fun _ => rfl) rfl rfl rfl ?_
      refine w_nil (xn_then (w_condF rfl (w_skip (xn_blk (xn_then (w_reg ?_))))))
      refine wl_bin (fun x y => do eqGuard .add 3 (.tmp 19) (.const (.int .i64 (1))) x y; binOp .add 3 x y) (.tmp 19) (.const (.int .i64 (1))) (.int .i64 ((j : Nat) : Int)) (.int .i64 (1)) (.int .i64 ((j + 1 : Nat) : Int)) (fun _ => rfl) e3 rfl (add1r (k := j) (by omega) _ _ _) rfl ?_
      refine wl_m (.tmp 34) (.int .i64 ((j + 1 : Nat) : Int)) ?_
      refine w_nil ?_
      exact xn_loop (s.size - (j + 1)) (by omega) ⟨j + 1, rfl, e0, rfl, e18, by omega, by rw [nmA_in (by omega)] at hN; rw [← hN]; simp [hf31], M⟩
     | false =>
      cases hf32 : dgt (bt s (j)) with
      | true =>
       refine w_reg ?_
       refine wl_mv (.tmp 0) (.string s) (fun _ => rfl) e0 rfl ?_
       refine wl_m (.tmp 3) (.int .i64 ((j : Nat) : Int)) ?_
       refine wl_bin (fun x y => Instr.index 9 x y) (.tmp 22) (.tmp 23) (.string s) (.int .i64 ((j : Nat) : Int)) (.int .u8 (bt s (j))) (fun _ => rfl) rfl rfl (idx_b (by omega) _) rfl ?_
       refine wl_call 37 [(.tmp 24)] _ [.int .u8 (bt s (j))] (.bool false) rfl rfl (fun _ _ => by kernel_rfl) (ltr_c hf31 isLetter_n _) rfl ?_
       intro w31 hq
       replace M := M.trans hq
       clear hq
       refine wl_un (fun v => Op.unary .not v) (.tmp 25) (.bool false) (.bool true) (fun _ => rfl) rfl (by kernel_rfl) rfl ?_
       refine wl_m (.tmp 26) (.bool true) ?_
       refine wl_mv (.tmp 0) (.string s) (fun _ => rfl) e0 rfl ?_
       refine wl_m (.tmp 3) (.int .i64 ((j : Nat) : Int)) ?_
       refine wl_bin (fun x y => Instr.index 9 x y) (.tmp 28) (.tmp 29) (.string s) (.int .i64 ((j : Nat) : Int)) (.int .u8 (bt s (j))) (fun _ => rfl) rfl rfl (idx_b (by omega) _) rfl ?_
       refine wl_call 38 [(.tmp 30)] _ [.int .u8 (bt s (j))] (.bool true) rfl rfl (fun _ _ => by kernel_rfl) (dgt_c hf32 lisDigit_n _) rfl ?_
       intro w32 hq
       replace M := M.trans hq
       clear hq
       refine wl_un (fun v => Op.unary .not v) (.tmp 31) (.bool true) (.bool false) (fun _ => rfl) rfl (by kernel_rfl) rfl ?_
       refine wl_pick (.tmp 27) (.tmp 32) (.const (.bool false)) true (.bool false) (fun _ => rfl) rfl rfl rfl ?_
       refine w_nil (xn_then (w_condF rfl (w_skip (xn_blk (xn_then (w_reg ?_))))))
       refine wl_bin (fun x y => do eqGuard .add 3 (.tmp 19) (.const (.int .i64 (1))) x y; binOp .add 3 x y) (.tmp 19) (.const (.int .i64 (1))) (.int .i64 ((j : Nat) : Int)) (.int .i64 (1)) (.int .i64 ((j + 1 : Nat) : Int)) (fun _ => rfl) e3 rfl (add1r (k := j) (by omega) _ _ _) rfl ?_
       refine wl_m (.tmp 34) (.int .i64 ((j + 1 : Nat) : Int)) ?_
       refine w_nil ?_
       exact xn_loop (s.size - (j + 1)) (by omega) ⟨j + 1, rfl, e0, rfl, e18, by omega, by rw [nmA_in (by omega)] at hN; rw [← hN]; simp [hf31, hf32], M⟩
      | false =>
       refine w_reg ?_
       refine wl_mv (.tmp 0) (.string s) (fun _ => rfl) e0 rfl ?_
       refine wl_m (.tmp 3) (.int .i64 ((j : Nat) : Int)) ?_
       refine wl_bin (fun x y => Instr.index 9 x y) (.tmp 22) (.tmp 23) (.string s) (.int .i64 ((j : Nat) : Int)) (.int .u8 (bt s (j))) (fun _ => rfl) rfl rfl (idx_b (by omega) _) rfl ?_
       refine wl_call 37 [(.tmp 24)] _ [.int .u8 (bt s (j))] (.bool false) rfl rfl (fun _ _ => by kernel_rfl) (ltr_c hf31 isLetter_n _) rfl ?_
       intro w31 hq
       replace M := M.trans hq
       clear hq
       refine wl_un (fun v => Op.unary .not v) (.tmp 25) (.bool false) (.bool true) (fun _ => rfl) rfl (by kernel_rfl) rfl ?_
       refine wl_m (.tmp 26) (.bool true) ?_
       refine wl_mv (.tmp 0) (.string s) (fun _ => rfl) e0 rfl ?_
       refine wl_m (.tmp 3) (.int .i64 ((j : Nat) : Int)) ?_
       refine wl_bin (fun x y => Instr.index 9 x y) (.tmp 28) (.tmp 29) (.string s) (.int .i64 ((j : Nat) : Int)) (.int .u8 (bt s (j))) (fun _ => rfl) rfl rfl (idx_b (by omega) _) rfl ?_
       refine wl_call 38 [(.tmp 30)] _ [.int .u8 (bt s (j))] (.bool false) rfl rfl (fun _ _ => by kernel_rfl) (dgt_c hf32 lisDigit_n _) rfl ?_
       intro w32 hq
       replace M := M.trans hq
       clear hq
       refine wl_un (fun v => Op.unary .not v) (.tmp 31) (.bool false) (.bool true) (fun _ => rfl) rfl (by kernel_rfl) rfl ?_
       refine wl_pick (.tmp 27) (.tmp 32) (.const (.bool false)) true (.bool true) (fun _ => rfl) rfl rfl rfl ?_
       refine w_nil (xn_then (w_condT rfl (w_seq (w_reg ?_))))
       refine wl_m (.const (.bool false)) (.bool false) ?_
       refine w_nil (xn_then (w_ret (xr_blk (xr_then (xr_then (xr_blk (xr_then ?_)))))))
       exact w_ret1 _ (.bool false) rfl rfl ⟨by rw [← hN, nmA_in (by omega)]; simp [hf31, hf32], M⟩
    | false =>
     have hf30p := of_decide_eq_false hf30
     refine w_reg ?_
     refine wl_bin (fun x y => do eqGuard .lss 3 (.tmp 19) (.tmp 18) x y; binOp .lss 3 x y) (.tmp 19) (.tmp 18) (.int .i64 ((j : Nat) : Int)) (.int .i64 ((s.size : Nat) : Int)) (.bool false) (fun _ => rfl) e3 e18 (ltN hf30 _ _ _) rfl ?_
     refine w_nil (xn_then (w_seq (w_condF rfl (w_exit (xx_then (xx_then (xx_blk (xn_then (w_seq (w_reg ?_))))))))))
     refine wl_m (.const (.bool true)) (.bool true) ?_
     refine w_nil (xn_then (w_ret ?_))
     exact w_ret1 _ (.bool true) rfl rfl ⟨by rw [← hN, nmA_end (by omega)], M⟩
   | false =>
    refine w_reg ?_
    refine wl_m (.tmp 0) (.string s) ?_
    refine wl_b .eql 9 (.tmp 4) (.const (.string ⟨#[]⟩)) (.string s) (.string ⟨#[]⟩) (.bool false) (eqz9 hf0 _ _ _) ?_
    refine wl_m (.tmp 5) (.bool false) ?_
    refine wl_m (.tmp 0) (.string s) ?_
    refine wl_val (.int .i64 ((s.size : Nat) : Int)) (len_s _ _ s (by exact rfl) _ _ _ _ _ _) rfl ?_
    refine wl_b .gtr 3 (.tmp 8) (.const (.int .i64 (32))) (.int .i64 ((s.size : Nat) : Int)) (.int .i64 (32)) (.bool false) (gtN hf1 _ _ _) ?_
    refine wl_pick (.tmp 6) (.const (.bool true)) (.tmp 9) false (.bool false) (fun _ => rfl) rfl rfl rfl ?_
    refine wl_m (.tmp 10) (.bool false) ?_
    refine wl_m (.tmp 0) (.string s) ?_
    refine wl_bin (fun x y => Instr.index 9 x y) (.tmp 12) (.const (.int .i64 (0))) (.string s) (.int .i64 (0)) (.int .u8 (bt s (0))) (fun _ => rfl) rfl rfl (idx0z (by omega) _) rfl ?_
    refine wl_call 37 [(.tmp 13)] _ [.int .u8 (bt s (0))] (.bool false) rfl rfl (fun _ _ => by kernel_rfl) (ltr_c hf2 isLetter_n _) rfl ?_
    intro w1 hq
    replace M := M.trans hq
    clear hq
    refine wl_un (fun v => Op.unary .not v) (.tmp 14) (.bool false) (.bool true) (fun _ => rfl) rfl (by kernel_rfl) rfl ?_
    refine wl_pick (.tmp 11) (.const (.bool true)) (.tmp 15) false (.bool true) (fun _ => rfl) rfl rfl rfl ?_
    refine w_nil (xn_then (w_condT rfl (w_seq (w_reg ?_))))
    refine wl_m (.const (.bool false)) (.bool false) ?_
    refine w_nil (xn_then (w_ret (xr_then ?_)))
    exact w_ret1 _ (.bool false) rfl rfl ⟨by unfold nam; rw [hf0, hf1, hf2]; rfl, M⟩
theorem rname_n (s : ByteArray) (w : World) (hs : s.size ≤ maxLen) : Calls Tryd.prog 17 #[.string s] w fun e w' => e = .returned (.bool (nam s)) ∧ Mo w w' := by
 unfold maxLen at hs
 refine w_enter 35 Tryd.func17 Tryd.ntmps17 rfl rfl ?_
 have M : Mo w w := Mo.refl _
 refine w_seq (w_reg ?_)
 refine wl_m (.const (.bool false)) (.bool false) ?_
 refine w_nil (xn_then (w_seq (w_seq ?_)))
 cases hf0 : decide (s.size = 0) with
 | true =>
  have hf0p := of_decide_eq_true hf0
  refine w_reg ?_
  refine wl_m (.tmp 0) (.string s) ?_
  refine wl_b .eql 9 (.tmp 4) (.const (.string ⟨#[]⟩)) (.string s) (.string ⟨#[]⟩) (.bool true) (eqz9 hf0 _ _ _) ?_
  refine wl_m (.tmp 5) (.bool true) ?_
  refine wl_skip rfl (wl_skip rfl (wl_skip rfl ?_))
  refine wl_pick (.tmp 6) (.const (.bool true)) (.tmp 9) true (.bool true) (fun _ => rfl) rfl rfl rfl ?_
  refine wl_m (.tmp 10) (.bool true) ?_
  refine wl_skip rfl (wl_skip rfl (wl_skip rfl (wl_skip rfl ?_)))
  refine wl_pick (.tmp 11) (.const (.bool true)) (.tmp 15) true (.bool true) (fun _ => rfl) rfl rfl rfl ?_
  refine w_nil (xn_then (w_condT rfl (w_seq (w_reg ?_))))
  refine wl_m (.const (.bool false)) (.bool false) ?_
  refine w_nil (xn_then (w_ret (xr_then ?_)))
  exact w_ret1 _ (.bool false) rfl rfl ⟨by unfold nam; rw [hf0]; rfl, M⟩
 | false =>
  have hf0p := of_decide_eq_false hf0
  cases hf1 : decide (32 < s.size) with
  | true =>
   have hf1p := of_decide_eq_true hf1
   refine w_reg ?_
   refine wl_m (.tmp 0) (.string s) ?_
   refine wl_b .eql 9 (.tmp 4) (.const (.string ⟨#[]⟩)) (.string s) (.string ⟨#[]⟩) (.bool false) (eqz9 hf0 _ _ _) ?_
   refine wl_m (.tmp 5) (.bool false) ?_
   refine wl_m (.tmp 0) (.string s) ?_
   refine wl_val (.int .i64 ((s.size : Nat) : Int)) (len_s _ _ s (by exact rfl) _ _ _ _ _ _) rfl ?_
   refine wl_b .gtr 3 (.tmp 8) (.const (.int .i64 (32))) (.int .i64 ((s.size : Nat) : Int)) (.int .i64 (32)) (.bool true) (gtN hf1 _ _ _) ?_
   refine wl_pick (.tmp 6) (.const (.bool true)) (.tmp 9) false (.bool true) (fun _ => rfl) rfl rfl rfl ?_
   refine wl_m (.tmp 10) (.bool true) ?_
   refine wl_skip rfl (wl_skip rfl (wl_skip rfl (wl_skip rfl ?_)))
   refine wl_pick (.tmp 11) (.const (.bool true)) (.tmp 15) true (.bool true) (fun _ => rfl) rfl rfl rfl ?_
   refine w_nil (xn_then (w_condT rfl (w_seq (w_reg ?_))))
   refine wl_m (.const (.bool false)) (.bool false) ?_
   refine w_nil (xn_then (w_ret (xr_then ?_)))
   exact w_ret1 _ (.bool false) rfl rfl ⟨by unfold nam; rw [hf0, hf1]; rfl, M⟩
  | false =>
   have hf1p := of_decide_eq_false hf1
   cases hf2 : ltr (bt s (0)) with
   | true =>
    refine w_reg ?_
    refine wl_m (.tmp 0) (.string s) ?_
    refine wl_b .eql 9 (.tmp 4) (.const (.string ⟨#[]⟩)) (.string s) (.string ⟨#[]⟩) (.bool false) (eqz9 hf0 _ _ _) ?_
    refine wl_m (.tmp 5) (.bool false) ?_
    refine wl_m (.tmp 0) (.string s) ?_
    refine wl_val (.int .i64 ((s.size : Nat) : Int)) (len_s _ _ s (by exact rfl) _ _ _ _ _ _) rfl ?_
    refine wl_b .gtr 3 (.tmp 8) (.const (.int .i64 (32))) (.int .i64 ((s.size : Nat) : Int)) (.int .i64 (32)) (.bool false) (gtN hf1 _ _ _) ?_
    refine wl_pick (.tmp 6) (.const (.bool true)) (.tmp 9) false (.bool false) (fun _ => rfl) rfl rfl rfl ?_
    refine wl_m (.tmp 10) (.bool false) ?_
    refine wl_m (.tmp 0) (.string s) ?_
    refine wl_bin (fun x y => Instr.index 9 x y) (.tmp 12) (.const (.int .i64 (0))) (.string s) (.int .i64 (0)) (.int .u8 (bt s (0))) (fun _ => rfl) rfl rfl (idx0z (by omega) _) rfl ?_
    refine wl_call 29 [(.tmp 13)] _ [.int .u8 (bt s (0))] (.bool true) rfl rfl (fun _ _ => by kernel_rfl) (ltr_c hf2 letter_n _) rfl ?_
    intro w1 hq
    replace M := M.trans hq
    clear hq
    refine wl_un (fun v => Op.unary .not v) (.tmp 14) (.bool true) (.bool false) (fun _ => rfl) rfl (by kernel_rfl) rfl ?_
    refine wl_pick (.tmp 11) (.const (.bool true)) (.tmp 15) false (.bool false) (fun _ => rfl) rfl rfl rfl ?_
    refine w_nil (xn_then (w_condF rfl (w_skip (xn_then (w_seq (w_seq (w_reg ?_)))))))
    refine wl_m (.const (.int .i64 (0))) (.int .i64 (0)) ?_
    refine w_nil (xn_then (w_block ?_))
    have hnam : nam s = nmA s 0 := by unfold nam; rw [hf0, hf1, hf2]; rfl
    refine w_loop (fun m l w1 => ∃ j : Nat, m = s.size - j ∧ look l 0 = .string s ∧ look l 3 = .int .i64 ((j : Nat) : Int) ∧ j ≤ s.size ∧ nmA s j = nam s ∧ Mo w w1) _ ⟨0, rfl, rfl, rfl, by omega, hnam.symm, M⟩ ?_
    clear M
    rintro m l wl ⟨j, rfl, e0, e3, hj, hN, M⟩
    refine w_seq (w_seq ?_)
    cases hf30 : decide (j < s.size) with
    | true =>
     have hf30p := of_decide_eq_true hf30
     refine w_reg ?_
     refine wl_mv (.tmp 3) (.int .i64 ((j : Nat) : Int)) (fun _ => rfl) e3 rfl ?_
     refine wl_mv (.tmp 0) (.string s) (fun _ => rfl) e0 rfl ?_
     refine wl_val (.int .i64 ((s.size : Nat) : Int)) (len_s _ _ s (by exact rfl) _ _ _ _ _ _) rfl ?_
     refine wl_b .lss 3 (.tmp 17) (.tmp 19) (.int .i64 ((j : Nat) : Int)) (.int .i64 ((s.size : Nat) : Int)) (.bool true) (ltN hf30 _ _ _) ?_
     refine w_nil (xn_then (w_condT rfl (w_skip (xn_then (w_seq (w_block (w_seq ?_)))))))
     cases hf31 : ltr (bt s (j)) with
     | true =>
      refine w_reg ?_
      refine wl_mv (.tmp 0) (.string s) (fun _ => rfl) e0 rfl ?_
      refine wl_mv (.tmp 3) (.int .i64 ((j : Nat) : Int)) (fun _ => rfl) e3 rfl ?_
      refine wl_bin (fun x y => Instr.index 9 x y) (.tmp 23) (.tmp 24) (.string s) (.int .i64 ((j : Nat) : Int)) (.int .u8 (bt s (j))) (fun _ => rfl) rfl rfl (idx_b (by omega) _) rfl ?_
      refine wl_call 29 [(.tmp 25)] _ [.int .u8 (bt s (j))] (.bool true) rfl rfl (fun _ _ => by kernel_rfl) (ltr_c hf31 letter_n _) rfl ?_
      intro w31 hq
      replace M := M.trans hq
      clear hq
      refine wl_un (fun v => Op.unary .not v) (.tmp 26) (.bool true) (.bool false) (fun _ => rfl) rfl (by kernel_rfl) rfl ?_
      refine wl_m (.tmp 27) (.bool false) ?_
      refine wl_skip rfl (wl_skip rfl (wl_skip rfl (wl_skip rfl (wl_skip rfl ?_))))
      refine wl_pick (.tmp 28) (.tmp 33) (.const (.bool false)) false (.bool false) (fun _ => rfl) rfl rfl rfl ?_
      refine w_nil (xn_then (w_condF rfl (w_skip (xn_blk (xn_then (w_reg ?_))))))
      refine wl_mv (.tmp 3) (.int .i64 ((j : Nat) : Int)) (fun _ => rfl) e3 rfl ?_
      refine wl_b .add 3 (.tmp 21) (.const (.int .i64 (1))) (.int .i64 ((j : Nat) : Int)) (.int .i64 (1)) (.int .i64 ((j + 1 : Nat) : Int)) (add1r (k := j) (by omega) _ _ _) ?_
      refine wl_m (.tmp 22) (.int .i64 ((j + 1 : Nat) : Int)) ?_
      refine w_nil ?_
      exact xn_loop (s.size - (j + 1)) (by omega) ⟨j + 1, rfl, e0, rfl, by omega, by rw [nmA_in (by omega)] at hN; rw [← hN]; simp [hf31], M⟩
     | false =>
      cases hf32 : dgt (bt s (j)) with
      | true =>
       refine w_reg ?_
       refine wl_mv (.tmp 0) (.string s) (fun _ => rfl) e0 rfl ?_
       refine wl_mv (.tmp 3) (.int .i64 ((j : Nat) : Int)) (fun _ => rfl) e3 rfl ?_
       refine wl_bin (fun x y => Instr.index 9 x y) (.tmp 23) (.tmp 24) (.string s) (.int .i64 ((j : Nat) : Int)) (.int .u8 (bt s (j))) (fun _ => rfl) rfl rfl (idx_b (by omega) _) rfl ?_
       refine wl_call 29 [(.tmp 25)] _ [.int .u8 (bt s (j))] (.bool false) rfl rfl (fun _ _ => by kernel_rfl) (ltr_c hf31 letter_n _) rfl ?_
       intro w31 hq
       replace M := M.trans hq
       clear hq
       refine wl_un (fun v => Op.unary .not v) (.tmp 26) (.bool false) (.bool true) (fun _ => rfl) rfl (by kernel_rfl) rfl ?_
       refine wl_m (.tmp 27) (.bool true) ?_
       refine wl_mv (.tmp 0) (.string s) (fun _ => rfl) e0 rfl ?_
       refine wl_mv (.tmp 3) (.int .i64 ((j : Nat) : Int)) (fun _ => rfl) e3 rfl ?_
       refine wl_bin (fun x y => Instr.index 9 x y) (.tmp 29) (.tmp 30) (.string s) (.int .i64 ((j : Nat) : Int)) (.int .u8 (bt s (j))) (fun _ => rfl) rfl rfl (idx_b (by omega) _) rfl ?_
       refine wl_call 31 [(.tmp 31)] _ [.int .u8 (bt s (j))] (.bool true) rfl rfl (fun _ _ => by kernel_rfl) (dgt_c hf32 rdigit_n _) rfl ?_
       intro w32 hq
       replace M := M.trans hq
       clear hq
       refine wl_un (fun v => Op.unary .not v) (.tmp 32) (.bool true) (.bool false) (fun _ => rfl) rfl (by kernel_rfl) rfl ?_
       refine wl_pick (.tmp 28) (.tmp 33) (.const (.bool false)) true (.bool false) (fun _ => rfl) rfl rfl rfl ?_
       refine w_nil (xn_then (w_condF rfl (w_skip (xn_blk (xn_then (w_reg ?_))))))
       refine wl_mv (.tmp 3) (.int .i64 ((j : Nat) : Int)) (fun _ => rfl) e3 rfl ?_
       refine wl_b .add 3 (.tmp 21) (.const (.int .i64 (1))) (.int .i64 ((j : Nat) : Int)) (.int .i64 (1)) (.int .i64 ((j + 1 : Nat) : Int)) (add1r (k := j) (by omega) _ _ _) ?_
       refine wl_m (.tmp 22) (.int .i64 ((j + 1 : Nat) : Int)) ?_
       refine w_nil ?_
       exact xn_loop (s.size - (j + 1)) (by omega) ⟨j + 1, rfl, e0, rfl, by omega, by rw [nmA_in (by omega)] at hN; rw [← hN]; simp [hf31, hf32], M⟩
      | false =>
       refine w_reg ?_
       refine wl_mv (.tmp 0) (.string s) (fun _ => rfl) e0 rfl ?_
       refine wl_mv (.tmp 3) (.int .i64 ((j : Nat) : Int)) (fun _ => rfl) e3 rfl ?_
       refine wl_bin (fun x y => Instr.index 9 x y) (.tmp 23) (.tmp 24) (.string s) (.int .i64 ((j : Nat) : Int)) (.int .u8 (bt s (j))) (fun _ => rfl) rfl rfl (idx_b (by omega) _) rfl ?_
       refine wl_call 29 [(.tmp 25)] _ [.int .u8 (bt s (j))] (.bool false) rfl rfl (fun _ _ => by kernel_rfl) (ltr_c hf31 letter_n _) rfl ?_
       intro w31 hq
       replace M := M.trans hq
       clear hq
       refine wl_un (fun v => Op.unary .not v) (.tmp 26) (.bool false) (.bool true) (fun _ => rfl) rfl (by kernel_rfl) rfl ?_
       refine wl_m (.tmp 27) (.bool true) ?_
       refine wl_mv (.tmp 0) (.string s) (fun _ => rfl) e0 rfl ?_
       refine wl_mv (.tmp 3) (.int .i64 ((j : Nat) : Int)) (fun _ => rfl) e3 rfl ?_
       refine wl_bin (fun x y => Instr.index 9 x y) (.tmp 29) (.tmp 30) (.string s) (.int .i64 ((j : Nat) : Int)) (.int .u8 (bt s (j))) (fun _ => rfl) rfl rfl (idx_b (by omega) _) rfl ?_
       refine wl_call 31 [(.tmp 31)] _ [.int .u8 (bt s (j))] (.bool false) rfl rfl (fun _ _ => by kernel_rfl) (dgt_c hf32 rdigit_n _) rfl ?_
       intro w32 hq
       replace M := M.trans hq
       clear hq
       refine wl_un (fun v => Op.unary .not v) (.tmp 32) (.bool false) (.bool true) (fun _ => rfl) rfl (by kernel_rfl) rfl ?_
       refine wl_pick (.tmp 28) (.tmp 33) (.const (.bool false)) true (.bool true) (fun _ => rfl) rfl rfl rfl ?_
       refine w_nil (xn_then (w_condT rfl (w_seq (w_reg ?_))))
       refine wl_m (.const (.bool false)) (.bool false) ?_
       refine w_nil (xn_then (w_ret (xr_blk (xr_then (xr_then (xr_blk (xr_then ?_)))))))
       exact w_ret1 _ (.bool false) rfl rfl ⟨by rw [← hN, nmA_in (by omega)]; simp [hf31, hf32], M⟩
    | false =>
     have hf30p := of_decide_eq_false hf30
     refine w_reg ?_
     refine wl_mv (.tmp 3) (.int .i64 ((j : Nat) : Int)) (fun _ => rfl) e3 rfl ?_
     refine wl_mv (.tmp 0) (.string s) (fun _ => rfl) e0 rfl ?_
     refine wl_val (.int .i64 ((s.size : Nat) : Int)) (len_s _ _ s (by exact rfl) _ _ _ _ _ _) rfl ?_
     refine wl_b .lss 3 (.tmp 17) (.tmp 19) (.int .i64 ((j : Nat) : Int)) (.int .i64 ((s.size : Nat) : Int)) (.bool false) (ltN hf30 _ _ _) ?_
     refine w_nil (xn_then (w_condF rfl (w_exit (xx_then (xx_then (xx_blk (xn_then (w_seq (w_reg ?_)))))))))
     refine wl_m (.const (.bool true)) (.bool true) ?_
     refine w_nil (xn_then (w_ret ?_))
     exact w_ret1 _ (.bool true) rfl rfl ⟨by rw [← hN, nmA_end (by omega)], M⟩
   | false =>
    refine w_reg ?_
    refine wl_m (.tmp 0) (.string s) ?_
    refine wl_b .eql 9 (.tmp 4) (.const (.string ⟨#[]⟩)) (.string s) (.string ⟨#[]⟩) (.bool false) (eqz9 hf0 _ _ _) ?_
    refine wl_m (.tmp 5) (.bool false) ?_
    refine wl_m (.tmp 0) (.string s) ?_
    refine wl_val (.int .i64 ((s.size : Nat) : Int)) (len_s _ _ s (by exact rfl) _ _ _ _ _ _) rfl ?_
    refine wl_b .gtr 3 (.tmp 8) (.const (.int .i64 (32))) (.int .i64 ((s.size : Nat) : Int)) (.int .i64 (32)) (.bool false) (gtN hf1 _ _ _) ?_
    refine wl_pick (.tmp 6) (.const (.bool true)) (.tmp 9) false (.bool false) (fun _ => rfl) rfl rfl rfl ?_
    refine wl_m (.tmp 10) (.bool false) ?_
    refine wl_m (.tmp 0) (.string s) ?_
    refine wl_bin (fun x y => Instr.index 9 x y) (.tmp 12) (.const (.int .i64 (0))) (.string s) (.int .i64 (0)) (.int .u8 (bt s (0))) (fun _ => rfl) rfl rfl (idx0z (by omega) _) rfl ?_
    refine wl_call 29 [(.tmp 13)] _ [.int .u8 (bt s (0))] (.bool false) rfl rfl (fun _ _ => by kernel_rfl) (ltr_c hf2 letter_n _) rfl ?_
    intro w1 hq
    replace M := M.trans hq
    clear hq
    refine wl_un (fun v => Op.unary .not v) (.tmp 14) (.bool false) (.bool true) (fun _ => rfl) rfl (by kernel_rfl) rfl ?_
    refine wl_pick (.tmp 11) (.const (.bool true)) (.tmp 15) false (.bool true) (fun _ => rfl) rfl rfl rfl ?_
    refine w_nil (xn_then (w_condT rfl (w_seq (w_reg ?_))))
    refine wl_m (.const (.bool false)) (.bool false) ?_
    refine w_nil (xn_then (w_ret (xr_then ?_)))
    exact w_ret1 _ (.bool false) rfl rfl ⟨by unfold nam; rw [hf0, hf1, hf2]; rfl, M⟩
end Go.Proofs.YthgknegocfhdbaaDoor
/-
 Symbol and the document's; Blank where there is no such place.
-/
namespace Go.Proofs.YthgknegocfhdbaaDoor
open Go.RowKit
def sys : List ByteArray := [⟨#[123]⟩, ⟨#[125]⟩, ⟨#[40]⟩, ⟨#[41]⟩, ⟨#[44]⟩, ⟨#[59]⟩, ⟨#[58]⟩, ⟨#[46]⟩, ⟨#[61]⟩, ⟨#[33, 61]⟩, ⟨#[60]⟩, ⟨#[60, 61]⟩, ⟨#[62]⟩, ⟨#[62, 61]⟩, ⟨#[43]⟩, ⟨#[45]⟩, ⟨#[42]⟩]
def symb (s : ByteArray) : Bool := sys.any (fun x => s.toList == x.toList)
set_option maxRecDepth 10000 in
theorem sym_n (s : ByteArray) (w : World) : Calls Tryd.prog 18 #[.string s] w fun e w' => e = .returned (.bool (symb s)) ∧ Mo w w' := by
 refine w_enter 22 Tryd.func18 Tryd.ntmps18 rfl rfl ?_
 have M : Mo w w := Mo.refl _
 refine w_seq (w_reg ?_)
 refine wl_m (.const (.bool false)) (.bool false) ?_
 refine w_nil (xn_then (w_seq (w_seq (w_reg ?_))))
 refine wl_m (.tmp 0) (.string s) ?_
 refine w_nil (xn_then (w_block (w_seq (w_seq ?_))))
 cases hf0 : (s.toList == (⟨#[123]⟩ : ByteArray).toList) with
 | true =>
  refine w_reg ?_
  refine wl_b .eql 9 (.tmp 3) (.const (.string ⟨#[123]⟩)) (.string s) (.string ⟨#[123]⟩) (.bool true) (eq9 hf0 _ _ _) ?_
  refine wl_m (.tmp 5) (.bool true) ?_
  refine w_nil (xn_then (w_condT rfl (w_skip (xn_then (w_condT rfl (w_seq (w_reg ?_)))))))
  refine wl_m (.const (.bool true)) (.bool true) ?_
  refine w_nil (xn_then (w_ret (xr_blk (xr_then ?_))))
  exact w_ret1 _ (.bool true) rfl rfl ⟨by unfold symb sys; simp only [List.any_cons, List.any_nil]; rw [hf0]; rfl, M⟩
 | false =>
  refine w_reg ?_
  refine wl_b .eql 9 (.tmp 3) (.const (.string ⟨#[123]⟩)) (.string s) (.string ⟨#[123]⟩) (.bool false) (eq9 hf0 _ _ _) ?_
  refine wl_m (.tmp 5) (.bool false) ?_
  refine w_nil (xn_then (w_condF rfl (w_seq ?_)))
  cases hf1 : (s.toList == (⟨#[125]⟩ : ByteArray).toList) with
  | true =>
   refine w_reg ?_
   refine wl_b .eql 9 (.tmp 3) (.const (.string ⟨#[125]⟩)) (.string s) (.string ⟨#[125]⟩) (.bool true) (eq9 hf1 _ _ _) ?_
   refine wl_m (.tmp 6) (.bool true) ?_
   refine w_nil (xn_then (w_condT rfl (w_skip (xn_then (w_condT rfl (w_seq (w_reg ?_)))))))
   refine wl_m (.const (.bool true)) (.bool true) ?_
   refine w_nil (xn_then (w_ret (xr_blk (xr_then ?_))))
   exact w_ret1 _ (.bool true) rfl rfl ⟨by unfold symb sys; simp only [List.any_cons, List.any_nil]; rw [hf0, hf1]; rfl, M⟩
  | false =>
   refine w_reg ?_
   refine wl_b .eql 9 (.tmp 3) (.const (.string ⟨#[125]⟩)) (.string s) (.string ⟨#[125]⟩) (.bool false) (eq9 hf1 _ _ _) ?_
   refine wl_m (.tmp 6) (.bool false) ?_
   refine w_nil (xn_then (w_condF rfl (w_seq ?_)))
   cases hf2 : (s.toList == (⟨#[40]⟩ : ByteArray).toList) with
   | true =>
    refine w_reg ?_
    refine wl_b .eql 9 (.tmp 3) (.const (.string ⟨#[40]⟩)) (.string s) (.string ⟨#[40]⟩) (.bool true) (eq9 hf2 _ _ _) ?_
    refine wl_m (.tmp 7) (.bool true) ?_
    refine w_nil (xn_then (w_condT rfl (w_skip (xn_then (w_condT rfl (w_seq (w_reg ?_)))))))
    refine wl_m (.const (.bool true)) (.bool true) ?_
    refine w_nil (xn_then (w_ret (xr_blk (xr_then ?_))))
    exact w_ret1 _ (.bool true) rfl rfl ⟨by unfold symb sys; simp only [List.any_cons, List.any_nil]; rw [hf0, hf1, hf2]; rfl, M⟩
   | false =>
    refine w_reg ?_
    refine wl_b .eql 9 (.tmp 3) (.const (.string ⟨#[40]⟩)) (.string s) (.string ⟨#[40]⟩) (.bool false) (eq9 hf2 _ _ _) ?_
    refine wl_m (.tmp 7) (.bool false) ?_
    refine w_nil (xn_then (w_condF rfl (w_seq ?_)))
    cases hf3 : (s.toList == (⟨#[41]⟩ : ByteArray).toList) with
    | true =>
     refine w_reg ?_
     refine wl_b .eql 9 (.tmp 3) (.const (.string ⟨#[41]⟩)) (.string s) (.string ⟨#[41]⟩) (.bool true) (eq9 hf3 _ _ _) ?_
     refine wl_m (.tmp 8) (.bool true) ?_
     refine w_nil (xn_then (w_condT rfl (w_skip (xn_then (w_condT rfl (w_seq (w_reg ?_)))))))
     refine wl_m (.const (.bool true)) (.bool true) ?_
     refine w_nil (xn_then (w_ret (xr_blk (xr_then ?_))))
     exact w_ret1 _ (.bool true) rfl rfl ⟨by unfold symb sys; simp only [List.any_cons, List.any_nil]; rw [hf0, hf1, hf2, hf3]; rfl, M⟩
    | false =>
     refine w_reg ?_
     refine wl_b .eql 9 (.tmp 3) (.const (.string ⟨#[41]⟩)) (.string s) (.string ⟨#[41]⟩) (.bool false) (eq9 hf3 _ _ _) ?_
     refine wl_m (.tmp 8) (.bool false) ?_
     refine w_nil (xn_then (w_condF rfl (w_seq ?_)))
     cases hf4 : (s.toList == (⟨#[44]⟩ : ByteArray).toList) with
     | true =>
      refine w_reg ?_
      refine wl_b .eql 9 (.tmp 3) (.const (.string ⟨#[44]⟩)) (.string s) (.string ⟨#[44]⟩) (.bool true) (eq9 hf4 _ _ _) ?_
      refine wl_m (.tmp 9) (.bool true) ?_
      refine w_nil (xn_then (w_condT rfl (w_skip (xn_then (w_condT rfl (w_seq (w_reg ?_)))))))
      refine wl_m (.const (.bool true)) (.bool true) ?_
      refine w_nil (xn_then (w_ret (xr_blk (xr_then ?_))))
      exact w_ret1 _ (.bool true) rfl rfl ⟨by unfold symb sys; simp only [List.any_cons, List.any_nil]; rw [hf0, hf1, hf2, hf3, hf4]; rfl, M⟩
     | false =>
      refine w_reg ?_
      refine wl_b .eql 9 (.tmp 3) (.const (.string ⟨#[44]⟩)) (.string s) (.string ⟨#[44]⟩) (.bool false) (eq9 hf4 _ _ _) ?_
      refine wl_m (.tmp 9) (.bool false) ?_
      refine w_nil (xn_then (w_condF rfl (w_seq ?_)))
      cases hf5 : (s.toList == (⟨#[59]⟩ : ByteArray).toList) with
      | true =>
       refine w_reg ?_
       refine wl_b .eql 9 (.tmp 3) (.const (.string ⟨#[59]⟩)) (.string s) (.string ⟨#[59]⟩) (.bool true) (eq9 hf5 _ _ _) ?_
       refine wl_m (.tmp 10) (.bool true) ?_
       refine w_nil (xn_then (w_condT rfl (w_skip (xn_then (w_condT rfl (w_seq (w_reg ?_)))))))
       refine wl_m (.const (.bool true)) (.bool true) ?_
       refine w_nil (xn_then (w_ret (xr_blk (xr_then ?_))))
       exact w_ret1 _ (.bool true) rfl rfl ⟨by unfold symb sys; simp only [List.any_cons, List.any_nil]; rw [hf0, hf1, hf2, hf3, hf4, hf5]; rfl, M⟩
      | false =>
       refine w_reg ?_
       refine wl_b .eql 9 (.tmp 3) (.const (.string ⟨#[59]⟩)) (.string s) (.string ⟨#[59]⟩) (.bool false) (eq9 hf5 _ _ _) ?_
       refine wl_m (.tmp 10) (.bool false) ?_
       refine w_nil (xn_then (w_condF rfl (w_seq ?_)))
       cases hf6 : (s.toList == (⟨#[58]⟩ : ByteArray).toList) with
       | true =>
        refine w_reg ?_
        refine wl_b .eql 9 (.tmp 3) (.const (.string ⟨#[58]⟩)) (.string s) (.string ⟨#[58]⟩) (.bool true) (eq9 hf6 _ _ _) ?_
        refine wl_m (.tmp 11) (.bool true) ?_
        refine w_nil (xn_then (w_condT rfl (w_skip (xn_then (w_condT rfl (w_seq (w_reg ?_)))))))
        refine wl_m (.const (.bool true)) (.bool true) ?_
        refine w_nil (xn_then (w_ret (xr_blk (xr_then ?_))))
        exact w_ret1 _ (.bool true) rfl rfl ⟨by unfold symb sys; simp only [List.any_cons, List.any_nil]; rw [hf0, hf1, hf2, hf3, hf4, hf5, hf6]; rfl, M⟩
       | false =>
        refine w_reg ?_
        refine wl_b .eql 9 (.tmp 3) (.const (.string ⟨#[58]⟩)) (.string s) (.string ⟨#[58]⟩) (.bool false) (eq9 hf6 _ _ _) ?_
        refine wl_m (.tmp 11) (.bool false) ?_
        refine w_nil (xn_then (w_condF rfl (w_seq ?_)))
        cases hf7 : (s.toList == (⟨#[46]⟩ : ByteArray).toList) with
        | true =>
         refine w_reg ?_
         refine wl_b .eql 9 (.tmp 3) (.const (.string ⟨#[46]⟩)) (.string s) (.string ⟨#[46]⟩) (.bool true) (eq9 hf7 _ _ _) ?_
         refine wl_m (.tmp 12) (.bool true) ?_
         refine w_nil (xn_then (w_condT rfl (w_skip (xn_then (w_condT rfl (w_seq (w_reg ?_)))))))
         refine wl_m (.const (.bool true)) (.bool true) ?_
         refine w_nil (xn_then (w_ret (xr_blk (xr_then ?_))))
         exact w_ret1 _ (.bool true) rfl rfl ⟨by unfold symb sys; simp only [List.any_cons, List.any_nil]; rw [hf0, hf1, hf2, hf3, hf4, hf5, hf6, hf7]; rfl, M⟩
        | false =>
         refine w_reg ?_
         refine wl_b .eql 9 (.tmp 3) (.const (.string ⟨#[46]⟩)) (.string s) (.string ⟨#[46]⟩) (.bool false) (eq9 hf7 _ _ _) ?_
         refine wl_m (.tmp 12) (.bool false) ?_
         refine w_nil (xn_then (w_condF rfl (w_seq ?_)))
         cases hf8 : (s.toList == (⟨#[61]⟩ : ByteArray).toList) with
         | true =>
          refine w_reg ?_
          refine wl_b .eql 9 (.tmp 3) (.const (.string ⟨#[61]⟩)) (.string s) (.string ⟨#[61]⟩) (.bool true) (eq9 hf8 _ _ _) ?_
          refine wl_m (.tmp 13) (.bool true) ?_
          refine w_nil (xn_then (w_condT rfl (w_skip (xn_then (w_condT rfl (w_seq (w_reg ?_)))))))
          refine wl_m (.const (.bool true)) (.bool true) ?_
          refine w_nil (xn_then (w_ret (xr_blk (xr_then ?_))))
          exact w_ret1 _ (.bool true) rfl rfl ⟨by unfold symb sys; simp only [List.any_cons, List.any_nil]; rw [hf0, hf1, hf2, hf3, hf4, hf5, hf6, hf7, hf8]; rfl, M⟩
         | false =>
          refine w_reg ?_
          refine wl_b .eql 9 (.tmp 3) (.const (.string ⟨#[61]⟩)) (.string s) (.string ⟨#[61]⟩) (.bool false) (eq9 hf8 _ _ _) ?_
          refine wl_m (.tmp 13) (.bool false) ?_
          refine w_nil (xn_then (w_condF rfl (w_seq ?_)))
          cases hf9 : (s.toList == (⟨#[33, 61]⟩ : ByteArray).toList) with
          | true =>
           refine w_reg ?_
           refine wl_b .eql 9 (.tmp 3) (.const (.string ⟨#[33, 61]⟩)) (.string s) (.string ⟨#[33, 61]⟩) (.bool true) (eq9 hf9 _ _ _) ?_
           refine wl_m (.tmp 14) (.bool true) ?_
           refine w_nil (xn_then (w_condT rfl (w_skip (xn_then (w_condT rfl (w_seq (w_reg ?_)))))))
           refine wl_m (.const (.bool true)) (.bool true) ?_
           refine w_nil (xn_then (w_ret (xr_blk (xr_then ?_))))
           exact w_ret1 _ (.bool true) rfl rfl ⟨by unfold symb sys; simp only [List.any_cons, List.any_nil]; rw [hf0, hf1, hf2, hf3, hf4, hf5, hf6, hf7, hf8, hf9]; rfl, M⟩
          | false =>
           refine w_reg ?_
           refine wl_b .eql 9 (.tmp 3) (.const (.string ⟨#[33, 61]⟩)) (.string s) (.string ⟨#[33, 61]⟩) (.bool false) (eq9 hf9 _ _ _) ?_
           refine wl_m (.tmp 14) (.bool false) ?_
           refine w_nil (xn_then (w_condF rfl (w_seq ?_)))
           cases hf10 : (s.toList == (⟨#[60]⟩ : ByteArray).toList) with
           | true =>
            refine w_reg ?_
            refine wl_b .eql 9 (.tmp 3) (.const (.string ⟨#[60]⟩)) (.string s) (.string ⟨#[60]⟩) (.bool true) (eq9 hf10 _ _ _) ?_
            refine wl_m (.tmp 15) (.bool true) ?_
            refine w_nil (xn_then (w_condT rfl (w_skip (xn_then (w_condT rfl (w_seq (w_reg ?_)))))))
            refine wl_m (.const (.bool true)) (.bool true) ?_
            refine w_nil (xn_then (w_ret (xr_blk (xr_then ?_))))
            exact w_ret1 _ (.bool true) rfl rfl ⟨by unfold symb sys; simp only [List.any_cons, List.any_nil]; rw [hf0, hf1, hf2, hf3, hf4, hf5, hf6, hf7, hf8, hf9, hf10]; rfl, M⟩
           | false =>
            refine w_reg ?_
            refine wl_b .eql 9 (.tmp 3) (.const (.string ⟨#[60]⟩)) (.string s) (.string ⟨#[60]⟩) (.bool false) (eq9 hf10 _ _ _) ?_
            refine wl_m (.tmp 15) (.bool false) ?_
            refine w_nil (xn_then (w_condF rfl (w_seq ?_)))
            cases hf11 : (s.toList == (⟨#[60, 61]⟩ : ByteArray).toList) with
            | true =>
             refine w_reg ?_
             refine wl_b .eql 9 (.tmp 3) (.const (.string ⟨#[60, 61]⟩)) (.string s) (.string ⟨#[60, 61]⟩) (.bool true) (eq9 hf11 _ _ _) ?_
             refine wl_m (.tmp 16) (.bool true) ?_
             refine w_nil (xn_then (w_condT rfl (w_skip (xn_then (w_condT rfl (w_seq (w_reg ?_)))))))
             refine wl_m (.const (.bool true)) (.bool true) ?_
             refine w_nil (xn_then (w_ret (xr_blk (xr_then ?_))))
             exact w_ret1 _ (.bool true) rfl rfl ⟨by unfold symb sys; simp only [List.any_cons, List.any_nil]; rw [hf0, hf1, hf2, hf3, hf4, hf5, hf6, hf7, hf8, hf9, hf10, hf11]; rfl, M⟩
            | false =>
             refine w_reg ?_
             refine wl_b .eql 9 (.tmp 3) (.const (.string ⟨#[60, 61]⟩)) (.string s) (.string ⟨#[60, 61]⟩) (.bool false) (eq9 hf11 _ _ _) ?_
             refine wl_m (.tmp 16) (.bool false) ?_
             refine w_nil (xn_then (w_condF rfl (w_seq ?_)))
             cases hf12 : (s.toList == (⟨#[62]⟩ : ByteArray).toList) with
             | true =>
              refine w_reg ?_
              refine wl_b .eql 9 (.tmp 3) (.const (.string ⟨#[62]⟩)) (.string s) (.string ⟨#[62]⟩) (.bool true) (eq9 hf12 _ _ _) ?_
              refine wl_m (.tmp 17) (.bool true) ?_
              refine w_nil (xn_then (w_condT rfl (w_skip (xn_then (w_condT rfl (w_seq (w_reg ?_)))))))
              refine wl_m (.const (.bool true)) (.bool true) ?_
              refine w_nil (xn_then (w_ret (xr_blk (xr_then ?_))))
              exact w_ret1 _ (.bool true) rfl rfl ⟨by unfold symb sys; simp only [List.any_cons, List.any_nil]; rw [hf0, hf1, hf2, hf3, hf4, hf5, hf6, hf7, hf8, hf9, hf10, hf11, hf12]; rfl, M⟩
             | false =>
              refine w_reg ?_
              refine wl_b .eql 9 (.tmp 3) (.const (.string ⟨#[62]⟩)) (.string s) (.string ⟨#[62]⟩) (.bool false) (eq9 hf12 _ _ _) ?_
              refine wl_m (.tmp 17) (.bool false) ?_
              refine w_nil (xn_then (w_condF rfl (w_seq ?_)))
              cases hf13 : (s.toList == (⟨#[62, 61]⟩ : ByteArray).toList) with
              | true =>
               refine w_reg ?_
               refine wl_b .eql 9 (.tmp 3) (.const (.string ⟨#[62, 61]⟩)) (.string s) (.string ⟨#[62, 61]⟩) (.bool true) (eq9 hf13 _ _ _) ?_
               refine wl_m (.tmp 18) (.bool true) ?_
               refine w_nil (xn_then (w_condT rfl (w_skip (xn_then (w_condT rfl (w_seq (w_reg ?_)))))))
               refine wl_m (.const (.bool true)) (.bool true) ?_
               refine w_nil (xn_then (w_ret (xr_blk (xr_then ?_))))
               exact w_ret1 _ (.bool true) rfl rfl ⟨by unfold symb sys; simp only [List.any_cons, List.any_nil]; rw [hf0, hf1, hf2, hf3, hf4, hf5, hf6, hf7, hf8, hf9, hf10, hf11, hf12, hf13]; rfl, M⟩
              | false =>
               refine w_reg ?_
               refine wl_b .eql 9 (.tmp 3) (.const (.string ⟨#[62, 61]⟩)) (.string s) (.string ⟨#[62, 61]⟩) (.bool false) (eq9 hf13 _ _ _) ?_
               refine wl_m (.tmp 18) (.bool false) ?_
               refine w_nil (xn_then (w_condF rfl (w_seq ?_)))
               cases hf14 : (s.toList == (⟨#[43]⟩ : ByteArray).toList) with
               | true =>
                refine w_reg ?_
                refine wl_b .eql 9 (.tmp 3) (.const (.string ⟨#[43]⟩)) (.string s) (.string ⟨#[43]⟩) (.bool true) (eq9 hf14 _ _ _) ?_
                refine wl_m (.tmp 19) (.bool true) ?_
                refine w_nil (xn_then (w_condT rfl (w_skip (xn_then (w_condT rfl (w_seq (w_reg ?_)))))))
                refine wl_m (.const (.bool true)) (.bool true) ?_
                refine w_nil (xn_then (w_ret (xr_blk (xr_then ?_))))
                exact w_ret1 _ (.bool true) rfl rfl ⟨by unfold symb sys; simp only [List.any_cons, List.any_nil]; rw [hf0, hf1, hf2, hf3, hf4, hf5, hf6, hf7, hf8, hf9, hf10, hf11, hf12, hf13, hf14]; rfl, M⟩
               | false =>
                refine w_reg ?_
                refine wl_b .eql 9 (.tmp 3) (.const (.string ⟨#[43]⟩)) (.string s) (.string ⟨#[43]⟩) (.bool false) (eq9 hf14 _ _ _) ?_
                refine wl_m (.tmp 19) (.bool false) ?_
                refine w_nil (xn_then (w_condF rfl (w_seq ?_)))
                cases hf15 : (s.toList == (⟨#[45]⟩ : ByteArray).toList) with
                | true =>
                 refine w_reg ?_
                 refine wl_b .eql 9 (.tmp 3) (.const (.string ⟨#[45]⟩)) (.string s) (.string ⟨#[45]⟩) (.bool true) (eq9 hf15 _ _ _) ?_
                 refine wl_m (.tmp 20) (.bool true) ?_
                 refine w_nil (xn_then (w_condT rfl (w_skip (xn_then (w_condT rfl (w_seq (w_reg ?_)))))))
                 refine wl_m (.const (.bool true)) (.bool true) ?_
                 refine w_nil (xn_then (w_ret (xr_blk (xr_then ?_))))
                 exact w_ret1 _ (.bool true) rfl rfl ⟨by unfold symb sys; simp only [List.any_cons, List.any_nil]; rw [hf0, hf1, hf2, hf3, hf4, hf5, hf6, hf7, hf8, hf9, hf10, hf11, hf12, hf13, hf14, hf15]; rfl, M⟩
                | false =>
                 refine w_reg ?_
                 refine wl_b .eql 9 (.tmp 3) (.const (.string ⟨#[45]⟩)) (.string s) (.string ⟨#[45]⟩) (.bool false) (eq9 hf15 _ _ _) ?_
                 refine wl_m (.tmp 20) (.bool false) ?_
                 refine w_nil (xn_then (w_condF rfl ?_))
                 cases hf16 : (s.toList == (⟨#[42]⟩ : ByteArray).toList) with
                 | true =>
                  refine w_reg ?_
                  refine wl_b .eql 9 (.tmp 3) (.const (.string ⟨#[42]⟩)) (.string s) (.string ⟨#[42]⟩) (.bool true) (eq9 hf16 _ _ _) ?_
                  refine wl_m (.tmp 21) (.bool true) ?_
                  refine w_nil (xn_then (w_condT rfl (w_seq (w_reg ?_))))
                  refine wl_m (.const (.bool true)) (.bool true) ?_
                  refine w_nil (xn_then (w_ret (xr_blk (xr_then ?_))))
                  exact w_ret1 _ (.bool true) rfl rfl ⟨by unfold symb sys; simp only [List.any_cons, List.any_nil]; rw [hf0, hf1, hf2, hf3, hf4, hf5, hf6, hf7, hf8, hf9, hf10, hf11, hf12, hf13, hf14, hf15, hf16]; rfl, M⟩
                 | false =>
                  refine w_reg ?_
                  refine wl_b .eql 9 (.tmp 3) (.const (.string ⟨#[42]⟩)) (.string s) (.string ⟨#[42]⟩) (.bool false) (eq9 hf16 _ _ _) ?_
                  refine wl_m (.tmp 21) (.bool false) ?_
                  refine w_nil (xn_then (w_condF rfl (w_skip (xn_blk (xn_then (w_seq (w_reg ?_)))))))
                  refine wl_m (.const (.bool false)) (.bool false) ?_
                  refine w_nil (xn_then (w_ret ?_))
                  exact w_ret1 _ (.bool false) rfl rfl ⟨by unfold symb sys; simp only [List.any_cons, List.any_nil]; rw [hf0, hf1, hf2, hf3, hf4, hf5, hf6, hf7, hf8, hf9, hf10, hf11, hf12, hf13, hf14, hf15, hf16]; rfl, M⟩
section
variable {o : Oper} {n : Nat} {l : List (Nat × Value)} {w : World} {ops : Array Oper} {rest : List Oper} {Q : Exit → Act → World → Prop}
theorem wl_sys (ho : o.op = .buildSlice 60 17 #[(0, .const (.string ⟨#[123]⟩)), (1, .const (.string ⟨#[125]⟩)), (2, .const (.string ⟨#[40]⟩)), (3, .const (.string ⟨#[41]⟩)), (4, .const (.string ⟨#[44]⟩)), (5, .const (.string ⟨#[59]⟩)), (6, .const (.string ⟨#[58]⟩)), (7, .const (.string ⟨#[46]⟩)), (8, .const (.string ⟨#[61]⟩)), (9, .const (.string ⟨#[33, 61]⟩)), (10, .const (.string ⟨#[60]⟩)), (11, .const (.string ⟨#[60, 61]⟩)), (12, .const (.string ⟨#[62]⟩)), (13, .const (.string ⟨#[62, 61]⟩)), (14, .const (.string ⟨#[43]⟩)), (15, .const (.string ⟨#[45]⟩)), (16, .const (.string ⟨#[42]⟩))]) (hg : wnt n l ops o = true)
  (hk : ∀ k w', w.heap.size = k → w'.heap.size = k + 1 → Mo w w' → At w' k (sys.map Value.string) → WL Tryd.prog ops Q rest n (ext l o.dst (.slice (some ⟨k, 0, none⟩) 17 17)) w') : WL Tryd.prog ops Q (o :: rest) n l w :=
 ⟨l_step hg (o_val (.slice (some ⟨w.heap.size, 0, none⟩) 17 17) (w' := w.alloc (.cells (sys.map Value.string).toArray 9)) (by unfold execOp; rw [ho]; kernel_rfl) (hk _ _ rfl (by simp) ((Mo.refl _).alloc _ _) (At.new w (sys.map Value.string).toArray 9)).out)⟩
end
theorem ix60 (g j n c : Nat) (h : j < n) (w : World) : (Instr.indexAt 60 (.slice (some ⟨g, 0, none⟩) n c) (.int .i64 (j : Int))).run Tryd.prog w = .ok (pt g j) w := by
 have e : (Instr.indexAt 60 (.slice (some ⟨g, 0, none⟩) n c) (.int .i64 (j : Int))).run Tryd.prog w = .ok (.pointer (some ((⟨g, 0, none⟩ : Addr).add (j * 1)))) w := by simp [go_sem, h]
 rw [e, Addr.add_mid, Nat.mul_one, Nat.zero_add]
theorem len60 (ρ : Operand → Value) (x : Operand) (p : Option Addr) (m c : Nat) (hx : ρ x = .slice p m c) (dst : Option Tmp) (type : TypeId) (pos : String) (after : Array Edge) (guard : Option (Nat × Bool)) (w : World) : (execOp ρ { dst, op := .call { callee := .builtin .len, args := #[x], argTypes := #[60] }, type, pos, after, guard }).run Tryd.prog w = .ok (.value (.int .i64 (m : Int))) w := by
 simp [go_sem, hx]
theorem beq_sym {a b : List UInt8} {r : Bool} (h : (a == b) = r) : (b == a) = r := by rw [← h, Bool.eq_iff_iff, beq_iff_eq, beq_iff_eq]; exact eq_comm
theorem any_take {f : ByteArray → Bool} {L : List ByteArray} {i : Nat} {x : ByteArray} (h : (L.take i).any f = false) (hx : L[i]? = some x) (hf : f x = false) : (L.take (i + 1)).any f = false := by
 rw [List.take_add_one, hx, List.any_append, h]
 simp [hf]
theorem rsym_n (s : ByteArray) (w : World) : Calls Tryd.prog 19 #[.string s] w fun e w' => e = .returned (.bool (symb s)) ∧ Mo w w' := by
 refine w_enter 18 Tryd.func19 Tryd.ntmps19 rfl rfl ?_
 have M : Mo w w := Mo.refl _
 refine w_seq (w_reg ?_)
 refine wl_m (.const (.bool false)) (.bool false) ?_
 refine w_nil (xn_then (w_seq (w_reg ?_)))
 refine wl_sys rfl rfl ?_
 intro k wk _ _ hq QK
 replace M := M.trans hq
 clear hq
 refine wl_m (.tmp 5) (.slice (some ⟨k, 0, none⟩) 17 17) ?_
 refine w_nil (xn_then (w_seq (w_seq (w_reg ?_))))
 refine wl_m (.const (.int .i64 (0))) (.int .i64 (0)) ?_
 refine w_nil (xn_then (w_block ?_))
 refine w_loop (fun m l w1 => ∃ j : Nat, m + j = 17 ∧ look l 0 = .string s ∧ look l 3 = .slice (some ⟨k, 0, none⟩) 17 17 ∧ look l 4 = .int .i64 ((j : Nat) : Int) ∧ At w1 k (sys.map Value.string) ∧ (sys.take j).any (fun x => s.toList == x.toList) = false ∧ Mo w w1) 17 ⟨0, rfl, rfl, rfl, rfl, QK, rfl, M⟩ ?_
 clear M QK
 rintro m l wl ⟨j, hm, e0, e3, e4, QK, hT, M⟩
 have hsl : sys.length = 17 := rfl
 by_cases hj : j < 17
 ·obtain ⟨x9, hx9⟩ : ∃ x, sys[j]? = some x := ⟨sys[j]'(by omega), List.getElem?_eq_getElem _⟩
  have hjd : decide (j < 17) = true := decide_eq_true hj
  refine w_seq (w_seq (w_reg ?_))
  refine wl_mv (.tmp 4) (.int .i64 ((j : Nat) : Int)) (fun _ => rfl) e4 rfl ?_
  refine wl_mv (.tmp 3) (.slice (some ⟨k, 0, none⟩) 17 17) (fun _ => rfl) e3 rfl ?_
  refine wl_val (.int .i64 ((17 : Nat) : Int)) (len60 _ _ _ _ _ (by exact rfl) _ _ _ _ _ _) rfl ?_
  refine wl_b .lss 3 (.tmp 6) (.tmp 8) (.int .i64 ((j : Nat) : Int)) (.int .i64 ((17 : Nat) : Int)) (.bool true) (ltN hjd _ _ _) ?_
  refine w_nil (xn_then (w_condT rfl (w_skip (xn_then (w_seq (w_block (w_seq ?_)))))))
  cases hf0 : (x9.toList == s.toList) with
  | true =>
   refine w_reg ?_
   refine wl_mv (.tmp 3) (.slice (some ⟨k, 0, none⟩) 17 17) (fun _ => rfl) e3 rfl ?_
   refine wl_mv (.tmp 4) (.int .i64 ((j : Nat) : Int)) (fun _ => rfl) e4 rfl ?_
   refine wl_bin (fun x y => Instr.indexAt 60 x y) (.tmp 12) (.tmp 13) (.slice (some ⟨k, 0, none⟩) 17 17) (.int .i64 ((j : Nat) : Int)) (pt k j) (fun _ => rfl) rfl rfl (ix60 k j _ _ (by omega) _) rfl ?_
   refine wl_l 9 (.tmp 14) (pt k j) (.string x9) (run_one QK 9 j (by rw [List.getElem?_map, hx9]; rfl) Tryd.underlying9 rfl) ?_
   refine wl_mv (.tmp 0) (.string s) (fun _ => rfl) e0 rfl ?_
   refine wl_b .eql 9 (.tmp 15) (.tmp 16) (.string x9) (.string s) (.bool true) (eq9 hf0 _ _ _) ?_
   refine w_nil (xn_then (w_condT rfl (w_seq (w_reg ?_))))
   refine wl_m (.const (.bool true)) (.bool true) ?_
   refine w_nil (xn_then (w_ret (xr_blk (xr_then (xr_then (xr_blk (xr_then ?_)))))))
   exact w_ret1 _ (.bool true) rfl rfl ⟨by have : symb s = true := List.any_eq_true.2 ⟨x9, List.mem_of_getElem? hx9, beq_sym hf0⟩; rw [this], M⟩
  | false =>
   refine w_reg ?_
   refine wl_mv (.tmp 3) (.slice (some ⟨k, 0, none⟩) 17 17) (fun _ => rfl) e3 rfl ?_
   refine wl_mv (.tmp 4) (.int .i64 ((j : Nat) : Int)) (fun _ => rfl) e4 rfl ?_
   refine wl_bin (fun x y => Instr.indexAt 60 x y) (.tmp 12) (.tmp 13) (.slice (some ⟨k, 0, none⟩) 17 17) (.int .i64 ((j : Nat) : Int)) (pt k j) (fun _ => rfl) rfl rfl (ix60 k j _ _ (by omega) _) rfl ?_
   refine wl_l 9 (.tmp 14) (pt k j) (.string x9) (run_one QK 9 j (by rw [List.getElem?_map, hx9]; rfl) Tryd.underlying9 rfl) ?_
   refine wl_mv (.tmp 0) (.string s) (fun _ => rfl) e0 rfl ?_
   refine wl_b .eql 9 (.tmp 15) (.tmp 16) (.string x9) (.string s) (.bool false) (eq9 hf0 _ _ _) ?_
   refine w_nil (xn_then (w_condF rfl (w_skip (xn_blk (xn_then (w_reg ?_))))))
   refine wl_mv (.tmp 4) (.int .i64 ((j : Nat) : Int)) (fun _ => rfl) e4 rfl ?_
   refine wl_b .add 3 (.tmp 10) (.const (.int .i64 (1))) (.int .i64 ((j : Nat) : Int)) (.int .i64 (1)) (.int .i64 ((j + 1 : Nat) : Int)) (add1r (k := j) (by omega) _ _ _) ?_
   refine wl_m (.tmp 11) (.int .i64 ((j + 1 : Nat) : Int)) ?_
   refine w_nil ?_
   exact xn_loop (m - 1) (by omega) ⟨j + 1, by omega, e0, e3, rfl, QK, any_take hT hx9 (beq_sym hf0), M⟩
 ·have hjd : decide (j < 17) = false := decide_eq_false hj
  refine w_seq (w_seq (w_reg ?_))
  refine wl_mv (.tmp 4) (.int .i64 ((j : Nat) : Int)) (fun _ => rfl) e4 rfl ?_
  refine wl_mv (.tmp 3) (.slice (some ⟨k, 0, none⟩) 17 17) (fun _ => rfl) e3 rfl ?_
  refine wl_val (.int .i64 ((17 : Nat) : Int)) (len60 _ _ _ _ _ (by exact rfl) _ _ _ _ _ _) rfl ?_
  refine wl_b .lss 3 (.tmp 6) (.tmp 8) (.int .i64 ((j : Nat) : Int)) (.int .i64 ((17 : Nat) : Int)) (.bool false) (ltN hjd _ _ _) ?_
  refine w_nil (xn_then (w_condF rfl (w_exit (xx_then (xx_then (xx_blk (xn_then (w_seq (w_reg ?_)))))))))
  refine wl_m (.const (.bool false)) (.bool false) ?_
  refine w_nil (xn_then (w_ret ?_))
  have hz : symb s = false := by rw [← hT, List.take_of_length_le (by omega)]; rfl
  exact w_ret1 _ (.bool false) rfl rfl ⟨by rw [hz], M⟩
end Go.Proofs.YthgknegocfhdbaaDoor
/-
 hexByte and firstByte.
-/
namespace Go.Proofs.YthgknegocfhdbaaDoor
open Go.RowKit

set_option maxRecDepth 100000 in
theorem bits16 : ∀ a : Fin 16, ∀ b : Fin 16, bits BinOp.or IntKind.i64 (16 * ((a.val : Nat) : Int)) ((b.val : Nat) : Int) = 16 * ((a.val : Nat) : Int) + ((b.val : Nat) : Int) := by decide +kernel
theorem or16 {a b : Nat} (ha : a < 16) (hb : b < 16) (x y : Operand) (w : World) : (do eqGuard .or 3 x y (.int .i64 ((16 * a : Nat) : Int)) (.int .i64 (b : Int)); binOp .or 3 (.int .i64 ((16 * a : Nat) : Int)) (.int .i64 (b : Int))).run Tryd.prog w = .ok (.int .i64 ((16 * a + b : Nat) : Int)) w := by
 have h := bits16 ⟨a, ha⟩ ⟨b, hb⟩
 simp [go_sem]; exact h
theorem shl4 {a : Nat} (ha : a < 16) (x y : Operand) (w : World) : (do eqGuard .shl 3 x y (.int .i64 (a : Int)) (.int .u64 4); binOp .shl 3 (.int .i64 (a : Int)) (.int .u64 4)).run Tryd.prog w = .ok (.int .i64 ((16 * a : Nat) : Int)) w := by
 simp [go_sem]; rw [IntKind.wrap_i64]; omega
theorem cv35 {a : Nat} (ha : a < 256) (w : World) : (convert 3 5 (.int .i64 (a : Int))).run Tryd.prog w = .ok (.int .u8 (a : Int)) w := by
 have h : IntKind.u8.wrap (a : Int) = (a : Int) := by rw [IntKind.wrap_u8]; omega
 simp [go_sem, h]
def hxd (c : Int) : Int := Lib.indexByte (by8 ⟨#[48, 49, 50, 51, 52, 53, 54, 55, 56, 57, 97, 98, 99, 100, 101, 102]⟩) c.toNat.toUInt8
theorem hxd_cases (c : Int) : hxd c = -1 ∨ ∃ a : Nat, a < 16 ∧ hxd c = (a : Int) := by
 have h := Lib.indexByte_ge (by8 ⟨#[48, 49, 50, 51, 52, 53, 54, 55, 56, 57, 97, 98, 99, 100, 101, 102]⟩) c.toNat.toUInt8
 by_cases h1 : hxd c = -1
 ·exact Or.inl h1
 ·obtain ⟨a, ha⟩ : ∃ a : Nat, hxd c = (a : Int) := ⟨(hxd c).toNat, by unfold hxd at h1 ⊢; omega⟩
  refine Or.inr ⟨a, ?_, ha⟩
  have := (List.getElem?_eq_some_iff.1 (Lib.indexByte_some ha).1).1
  exact this
def hexB (h l : Int) : Int × Int := if hxd h < 0 ∨ hxd l < 0 then (0, 0) else if prn (16 * hxd h + hxd l) then (0, 0) else (16 * hxd h + hxd l, 4)
theorem hxd_n {c r : Int} (h : hxd c = r) (w : World) : Calls Tryd.prog 36 #[.string ⟨#[48, 49, 50, 51, 52, 53, 54, 55, 56, 57, 97, 98, 99, 100, 101, 102]⟩, .int .u8 c] w fun e w' => e = .returned (.int .i64 r) ∧ Mo w w' := h ▸ ixb_n ⟨#[48, 49, 50, 51, 52, 53, 54, 55, 56, 57, 97, 98, 99, 100, 101, 102]⟩ c w
theorem prn_c {c : Int} {r : Bool} (h : prn c = r) (w : World) : Calls Tryd.prog 43 #[.int .u8 c] w fun e w' => e = .returned (.bool r) ∧ Mo w w' := h ▸ isPrinted_n c w
theorem hexByte_n (h l : Int) (w : World) : Calls Tryd.prog 53 #[.int .u8 h, .int .u8 l] w fun e w' => e = .returned (.tuple #[.int .u8 (hexB h l).1, .int .i64 (hexB h l).2]) ∧ Mo w w' := by
 rcases hxd_cases h with h1 | ⟨a, ha, h1⟩
 ·obtain ⟨r2, h2⟩ : ∃ r, hxd l = r := ⟨_, rfl⟩
  refine w_enter 27 Tryd.func53 Tryd.ntmps53 rfl rfl ?_
  have M : Mo w w := Mo.refl _
  refine w_seq (w_reg ?_)
  refine wl_m (.const (.int .u8 (0))) (.int .u8 (0)) ?_
  refine wl_m (.const (.int .i64 (0))) (.int .i64 (0)) ?_
  refine w_nil (xn_then (w_seq (w_reg ?_)))
  refine wl_m (.tmp 0) (.int .u8 (h)) ?_
  refine wl_call 36 [(.const (.string ⟨#[48, 49, 50, 51, 52, 53, 54, 55, 56, 57, 97, 98, 99, 100, 101, 102]⟩)), (.tmp 9)] _ [.string ⟨#[48, 49, 50, 51, 52, 53, 54, 55, 56, 57, 97, 98, 99, 100, 101, 102]⟩, .int .u8 (h)] (.int .i64 (-1)) rfl rfl (fun _ _ => by kernel_rfl) (hxd_n h1 _) rfl ?_
  intro w1 hq
  replace M := M.trans hq
  clear hq
  refine wl_m (.tmp 1) (.int .u8 (l)) ?_
  refine wl_call 36 [(.const (.string ⟨#[48, 49, 50, 51, 52, 53, 54, 55, 56, 57, 97, 98, 99, 100, 101, 102]⟩)), (.tmp 11)] _ [.string ⟨#[48, 49, 50, 51, 52, 53, 54, 55, 56, 57, 97, 98, 99, 100, 101, 102]⟩, .int .u8 (l)] (.int .i64 (r2)) rfl rfl (fun _ _ => by kernel_rfl) (hxd_n h2 _) rfl ?_
  intro w2 hq
  replace M := M.trans hq
  clear hq
  refine wl_m (.tmp 10) (.int .i64 (-1)) ?_
  refine wl_m (.tmp 12) (.int .i64 (r2)) ?_
  refine w_nil (xn_then (w_seq (w_seq (w_reg ?_))))
  refine wl_m (.tmp 6) (.int .i64 (-1)) ?_
  refine wl_b .lss 3 (.tmp 13) (.const (.int .i64 (0))) (.int .i64 (-1)) (.int .i64 (0)) (.bool true) (lt3_run (r := true) (by decide) _ _ _) ?_
  refine wl_m (.tmp 14) (.bool true) ?_
  refine wl_skip rfl (wl_skip rfl ?_)
  refine wl_pick (.tmp 15) (.const (.bool true)) (.tmp 17) true (.bool true) (fun _ => rfl) rfl rfl rfl ?_
  refine w_nil (xn_then (w_condT rfl (w_seq (w_reg ?_))))
  refine wl_m (.const (.int .u8 (0))) (.int .u8 (0)) ?_
  refine wl_m (.const (.int .i64 (0))) (.int .i64 (0)) ?_
  refine w_nil (xn_then (w_ret (xr_then ?_)))
  exact w_ret2 _ _ (.int .u8 (0)) (.int .i64 (0)) rfl rfl rfl ⟨by unfold hexB; rw [if_pos (by omega)], M⟩
 ·rcases hxd_cases l with h2 | ⟨b, hb, h2⟩
  ·skip
   refine w_enter 27 Tryd.func53 Tryd.ntmps53 rfl rfl ?_
   have M : Mo w w := Mo.refl _
   refine w_seq (w_reg ?_)
   refine wl_m (.const (.int .u8 (0))) (.int .u8 (0)) ?_
   refine wl_m (.const (.int .i64 (0))) (.int .i64 (0)) ?_
   refine w_nil (xn_then (w_seq (w_reg ?_)))
   refine wl_m (.tmp 0) (.int .u8 (h)) ?_
   refine wl_call 36 [(.const (.string ⟨#[48, 49, 50, 51, 52, 53, 54, 55, 56, 57, 97, 98, 99, 100, 101, 102]⟩)), (.tmp 9)] _ [.string ⟨#[48, 49, 50, 51, 52, 53, 54, 55, 56, 57, 97, 98, 99, 100, 101, 102]⟩, .int .u8 (h)] (.int .i64 ((a : Nat) : Int)) rfl rfl (fun _ _ => by kernel_rfl) (hxd_n h1 _) rfl ?_
   intro w1 hq
   replace M := M.trans hq
   clear hq
   refine wl_m (.tmp 1) (.int .u8 (l)) ?_
   refine wl_call 36 [(.const (.string ⟨#[48, 49, 50, 51, 52, 53, 54, 55, 56, 57, 97, 98, 99, 100, 101, 102]⟩)), (.tmp 11)] _ [.string ⟨#[48, 49, 50, 51, 52, 53, 54, 55, 56, 57, 97, 98, 99, 100, 101, 102]⟩, .int .u8 (l)] (.int .i64 (-1)) rfl rfl (fun _ _ => by kernel_rfl) (hxd_n h2 _) rfl ?_
   intro w2 hq
   replace M := M.trans hq
   clear hq
   refine wl_m (.tmp 10) (.int .i64 ((a : Nat) : Int)) ?_
   refine wl_m (.tmp 12) (.int .i64 (-1)) ?_
   refine w_nil (xn_then (w_seq (w_seq (w_reg ?_))))
   refine wl_m (.tmp 6) (.int .i64 ((a : Nat) : Int)) ?_
   refine wl_b .lss 3 (.tmp 13) (.const (.int .i64 (0))) (.int .i64 ((a : Nat) : Int)) (.int .i64 (0)) (.bool false) (lt3_run (r := false) (decide_eq_false (by omega)) _ _ _) ?_
   refine wl_m (.tmp 14) (.bool false) ?_
   refine wl_m (.tmp 7) (.int .i64 (-1)) ?_
   refine wl_b .lss 3 (.tmp 16) (.const (.int .i64 (0))) (.int .i64 (-1)) (.int .i64 (0)) (.bool true) (lt3_run (r := true) (by decide) _ _ _) ?_
   refine wl_pick (.tmp 15) (.const (.bool true)) (.tmp 17) false (.bool true) (fun _ => rfl) rfl rfl rfl ?_
   refine w_nil (xn_then (w_condT rfl (w_seq (w_reg ?_))))
   refine wl_m (.const (.int .u8 (0))) (.int .u8 (0)) ?_
   refine wl_m (.const (.int .i64 (0))) (.int .i64 (0)) ?_
   refine w_nil (xn_then (w_ret (xr_then ?_)))
   exact w_ret2 _ _ (.int .u8 (0)) (.int .i64 (0)) rfl rfl rfl ⟨by unfold hexB; rw [if_pos (by omega)], M⟩
  ·skip
   refine w_enter 27 Tryd.func53 Tryd.ntmps53 rfl rfl ?_
   have M : Mo w w := Mo.refl _
   refine w_seq (w_reg ?_)
   refine wl_m (.const (.int .u8 (0))) (.int .u8 (0)) ?_
   refine wl_m (.const (.int .i64 (0))) (.int .i64 (0)) ?_
   refine w_nil (xn_then (w_seq (w_reg ?_)))
   refine wl_m (.tmp 0) (.int .u8 (h)) ?_
   refine wl_call 36 [(.const (.string ⟨#[48, 49, 50, 51, 52, 53, 54, 55, 56, 57, 97, 98, 99, 100, 101, 102]⟩)), (.tmp 9)] _ [.string ⟨#[48, 49, 50, 51, 52, 53, 54, 55, 56, 57, 97, 98, 99, 100, 101, 102]⟩, .int .u8 (h)] (.int .i64 ((a : Nat) : Int)) rfl rfl (fun _ _ => by kernel_rfl) (hxd_n h1 _) rfl ?_
   intro w1 hq
   replace M := M.trans hq
   clear hq
   refine wl_m (.tmp 1) (.int .u8 (l)) ?_
   refine wl_call 36 [(.const (.string ⟨#[48, 49, 50, 51, 52, 53, 54, 55, 56, 57, 97, 98, 99, 100, 101, 102]⟩)), (.tmp 11)] _ [.string ⟨#[48, 49, 50, 51, 52, 53, 54, 55, 56, 57, 97, 98, 99, 100, 101, 102]⟩, .int .u8 (l)] (.int .i64 ((b : Nat) : Int)) rfl rfl (fun _ _ => by kernel_rfl) (hxd_n h2 _) rfl ?_
   intro w2 hq
   replace M := M.trans hq
   clear hq
   refine wl_m (.tmp 10) (.int .i64 ((a : Nat) : Int)) ?_
   refine wl_m (.tmp 12) (.int .i64 ((b : Nat) : Int)) ?_
   refine w_nil (xn_then (w_seq (w_seq (w_reg ?_))))
   refine wl_m (.tmp 6) (.int .i64 ((a : Nat) : Int)) ?_
   refine wl_b .lss 3 (.tmp 13) (.const (.int .i64 (0))) (.int .i64 ((a : Nat) : Int)) (.int .i64 (0)) (.bool false) (lt3_run (r := false) (decide_eq_false (by omega)) _ _ _) ?_
   refine wl_m (.tmp 14) (.bool false) ?_
   refine wl_m (.tmp 7) (.int .i64 ((b : Nat) : Int)) ?_
   refine wl_b .lss 3 (.tmp 16) (.const (.int .i64 (0))) (.int .i64 ((b : Nat) : Int)) (.int .i64 (0)) (.bool false) (lt3_run (r := false) (decide_eq_false (by omega)) _ _ _) ?_
   refine wl_pick (.tmp 15) (.const (.bool true)) (.tmp 17) false (.bool false) (fun _ => rfl) rfl rfl rfl ?_
   refine w_nil (xn_then (w_condF rfl (w_skip (xn_then (w_seq (w_reg ?_))))))
   refine wl_m (.tmp 6) (.int .i64 ((a : Nat) : Int)) ?_
   refine wl_b .shl 3 (.tmp 19) (.const (.int .u64 (4))) (.int .i64 ((a : Nat) : Int)) (.int .u64 (4)) (.int .i64 ((16 * a : Nat) : Int)) (shl4 ha _ _ _) ?_
   refine wl_m (.tmp 7) (.int .i64 ((b : Nat) : Int)) ?_
   refine wl_b .or 3 (.tmp 20) (.tmp 21) (.int .i64 ((16 * a : Nat) : Int)) (.int .i64 ((b : Nat) : Int)) (.int .i64 ((16 * a + b : Nat) : Int)) (or16 ha hb _ _ _) ?_
   refine wl_un (fun v => convert 3 5 v) (.tmp 22) (.int .i64 ((16 * a + b : Nat) : Int)) (.int .u8 ((16 * a + b : Nat) : Int)) (fun _ => rfl) rfl (cv35 (by omega) _) rfl ?_
   refine wl_m (.tmp 23) (.int .u8 ((16 * a + b : Nat) : Int)) ?_
   refine w_nil (xn_then (w_seq (w_seq ?_)))
   cases hf0 : prn ((16 * a + b : Nat) : Int) with
   | true =>
    refine w_reg ?_
    refine wl_m (.tmp 8) (.int .u8 ((16 * a + b : Nat) : Int)) ?_
    refine wl_call 43 [(.tmp 24)] _ [.int .u8 ((16 * a + b : Nat) : Int)] (.bool true) rfl rfl (fun _ _ => by kernel_rfl) (prn_c hf0 _) rfl ?_
    intro w3 hq
    replace M := M.trans hq
    clear hq
    refine w_nil (xn_then (w_condT rfl (w_seq (w_reg ?_))))
    refine wl_m (.const (.int .u8 (0))) (.int .u8 (0)) ?_
    refine wl_m (.const (.int .i64 (0))) (.int .i64 (0)) ?_
    refine w_nil (xn_then (w_ret (xr_then ?_)))
    exact w_ret2 _ _ (.int .u8 (0)) (.int .i64 (0)) rfl rfl rfl ⟨by unfold hexB; rw [if_neg (by omega), h1, h2, show (16 * (a : Int) + (b : Int)) = ((16 * a + b : Nat) : Int) by omega, if_pos hf0], M⟩
   | false =>
    refine w_reg ?_
    refine wl_m (.tmp 8) (.int .u8 ((16 * a + b : Nat) : Int)) ?_
    refine wl_call 43 [(.tmp 24)] _ [.int .u8 ((16 * a + b : Nat) : Int)] (.bool false) rfl rfl (fun _ _ => by kernel_rfl) (prn_c hf0 _) rfl ?_
    intro w3 hq
    replace M := M.trans hq
    clear hq
    refine w_nil (xn_then (w_condF rfl (w_skip (xn_then (w_seq (w_reg ?_))))))
    refine wl_m (.tmp 8) (.int .u8 ((16 * a + b : Nat) : Int)) ?_
    refine wl_m (.tmp 26) (.int .u8 ((16 * a + b : Nat) : Int)) ?_
    refine wl_m (.const (.int .i64 (4))) (.int .i64 (4)) ?_
    refine w_nil (xn_then (w_ret ?_))
    exact w_ret2 _ _ (.int .u8 ((16 * a + b : Nat) : Int)) (.int .i64 (4)) rfl rfl rfl ⟨by unfold hexB; rw [if_neg (by omega), h1, h2, show (16 * (a : Int) + (b : Int)) = ((16 * a + b : Nat) : Int) by omega, if_neg (by rw [hf0]; simp)], M⟩
def fb (s : ByteArray) : Int × Int :=
 if (bt s 0 == 92) = false then (if (bt s 0 == 34) = true ∨ prn (bt s 0) = false then (0, 0) else (bt s 0, 1))
 else if s.size < 2 then (0, 0) else if (bt s 1 == 34) = true ∨ (bt s 1 == 92) = true then (bt s 1, 2)
 else if (bt s 1 == 120) = true ∧ 4 ≤ s.size then hexB (bt s 2) (bt s 3) else (0, 0)
theorem geN {a b : Nat} {r : Bool} (h : decide (b ≤ a) = r) (x y : Operand) (w : World) : (do eqGuard .geq 3 x y (.int .i64 (a : Int)) (.int .i64 (b : Int)); binOp .geq 3 (.int .i64 (a : Int)) (.int .i64 (b : Int))).run Tryd.prog w = .ok (.bool r) w := by
 subst h; simp [go_sem]
theorem firstByte_n (s : ByteArray) (w : World) (h0 : 0 < s.size) : Calls Tryd.prog 39 #[.string s] w fun e w' => e = .returned (.tuple #[.int .u8 (fb s).1, .int .i64 (fb s).2]) ∧ Mo w w' := by
 refine w_enter 50 Tryd.func39 Tryd.ntmps39 rfl rfl ?_
 have M : Mo w w := Mo.refl _
 refine w_seq (w_reg ?_)
 refine wl_m (.const (.int .u8 (0))) (.int .u8 (0)) ?_
 refine wl_m (.const (.int .i64 (0))) (.int .i64 (0)) ?_
 refine w_nil (xn_then (w_seq (w_block (w_seq ?_))))
 cases hf0 : (bt s (0) == 92) with
 | true =>
  refine w_reg ?_
  refine wl_m (.tmp 0) (.string s) ?_
  refine wl_bin (fun x y => Instr.index 9 x y) (.tmp 5) (.const (.int .i64 (0))) (.string s) (.int .i64 (0)) (.int .u8 (bt s (0))) (fun _ => rfl) rfl rfl (idx_b (k := 0) (by omega) _) rfl ?_
  refine wl_b .neq 5 (.tmp 6) (.const (.int .u8 (92))) (.int .u8 (bt s (0))) (.int .u8 (92)) (.bool false) (ne5r hf0 _ _ _) ?_
  refine wl_m (.tmp 7) (.bool false) ?_
  refine w_nil (xn_then (w_condF rfl (w_seq ?_)))
  cases hf1 : decide (s.size < 2) with
  | true =>
   have hf1p := of_decide_eq_true hf1
   refine w_reg ?_
   refine wl_m (.tmp 0) (.string s) ?_
   refine wl_val (.int .i64 ((s.size : Nat) : Int)) (len_s _ _ s (by exact rfl) _ _ _ _ _ _) rfl ?_
   refine wl_b .lss 3 (.tmp 21) (.const (.int .i64 (2))) (.int .i64 ((s.size : Nat) : Int)) (.int .i64 (2)) (.bool true) (ltN hf1 _ _ _) ?_
   refine wl_m (.tmp 22) (.bool true) ?_
   refine w_nil (xn_then (w_condT rfl (w_seq (w_reg ?_))))
   refine wl_m (.const (.int .u8 (0))) (.int .u8 (0)) ?_
   refine wl_m (.const (.int .i64 (0))) (.int .i64 (0)) ?_
   refine w_nil (xn_then (w_ret (xr_blk (xr_then ?_))))
   exact w_ret2 _ _ (.int .u8 (0)) (.int .i64 (0)) rfl rfl rfl ⟨by unfold fb; rw [if_neg (by rw [hf0]; simp), if_pos hf1p], M⟩
  | false =>
   have hf1p := of_decide_eq_false hf1
   refine w_reg ?_
   refine wl_m (.tmp 0) (.string s) ?_
   refine wl_val (.int .i64 ((s.size : Nat) : Int)) (len_s _ _ s (by exact rfl) _ _ _ _ _ _) rfl ?_
   refine wl_b .lss 3 (.tmp 21) (.const (.int .i64 (2))) (.int .i64 ((s.size : Nat) : Int)) (.int .i64 (2)) (.bool false) (ltN hf1 _ _ _) ?_
   refine wl_m (.tmp 22) (.bool false) ?_
   refine w_nil (xn_then (w_condF rfl (w_seq ?_)))
   cases hf2 : (bt s (1) == 34) with
   | true =>
    refine w_reg ?_
    refine wl_m (.tmp 0) (.string s) ?_
    refine wl_bin (fun x y => Instr.index 9 x y) (.tmp 24) (.const (.int .i64 (1))) (.string s) (.int .i64 (1)) (.int .u8 (bt s (1))) (fun _ => rfl) rfl rfl (idx_b (k := 1) (by omega) _) rfl ?_
    refine wl_b .eql 5 (.tmp 25) (.const (.int .u8 (34))) (.int .u8 (bt s (1))) (.int .u8 (34)) (.bool true) (eq5r hf2 _ _ _) ?_
    refine wl_m (.tmp 26) (.bool true) ?_
    refine wl_skip rfl (wl_skip rfl (wl_skip rfl ?_))
    refine wl_pick (.tmp 27) (.const (.bool true)) (.tmp 30) true (.bool true) (fun _ => rfl) rfl rfl rfl ?_
    refine wl_m (.tmp 31) (.bool true) ?_
    refine w_nil (xn_then (w_condT rfl (w_seq (w_reg ?_))))
    refine wl_m (.tmp 0) (.string s) ?_
    refine wl_bin (fun x y => Instr.index 9 x y) (.tmp 32) (.const (.int .i64 (1))) (.string s) (.int .i64 (1)) (.int .u8 (bt s (1))) (fun _ => rfl) rfl rfl (idx_b (k := 1) (by omega) _) rfl ?_
    refine wl_m (.tmp 33) (.int .u8 (bt s (1))) ?_
    refine wl_m (.const (.int .i64 (2))) (.int .i64 (2)) ?_
    refine w_nil (xn_then (w_ret (xr_blk (xr_then ?_))))
    exact w_ret2 _ _ (.int .u8 (bt s (1))) (.int .i64 (2)) rfl rfl rfl ⟨by unfold fb; rw [if_neg (by rw [hf0]; simp), if_neg hf1p, if_pos (Or.inl hf2)], M⟩
   | false =>
    cases hf3 : (bt s (1) == 92) with
    | true =>
     refine w_reg ?_
     refine wl_m (.tmp 0) (.string s) ?_
     refine wl_bin (fun x y => Instr.index 9 x y) (.tmp 24) (.const (.int .i64 (1))) (.string s) (.int .i64 (1)) (.int .u8 (bt s (1))) (fun _ => rfl) rfl rfl (idx_b (k := 1) (by omega) _) rfl ?_
     refine wl_b .eql 5 (.tmp 25) (.const (.int .u8 (34))) (.int .u8 (bt s (1))) (.int .u8 (34)) (.bool false) (eq5r hf2 _ _ _) ?_
     refine wl_m (.tmp 26) (.bool false) ?_
     refine wl_m (.tmp 0) (.string s) ?_
     refine wl_bin (fun x y => Instr.index 9 x y) (.tmp 28) (.const (.int .i64 (1))) (.string s) (.int .i64 (1)) (.int .u8 (bt s (1))) (fun _ => rfl) rfl rfl (idx_b (k := 1) (by omega) _) rfl ?_
     refine wl_b .eql 5 (.tmp 29) (.const (.int .u8 (92))) (.int .u8 (bt s (1))) (.int .u8 (92)) (.bool true) (eq5r hf3 _ _ _) ?_
     refine wl_pick (.tmp 27) (.const (.bool true)) (.tmp 30) false (.bool true) (fun _ => rfl) rfl rfl rfl ?_
     refine wl_m (.tmp 31) (.bool true) ?_
     refine w_nil (xn_then (w_condT rfl (w_seq (w_reg ?_))))
     refine wl_m (.tmp 0) (.string s) ?_
     refine wl_bin (fun x y => Instr.index 9 x y) (.tmp 32) (.const (.int .i64 (1))) (.string s) (.int .i64 (1)) (.int .u8 (bt s (1))) (fun _ => rfl) rfl rfl (idx_b (k := 1) (by omega) _) rfl ?_
     refine wl_m (.tmp 33) (.int .u8 (bt s (1))) ?_
     refine wl_m (.const (.int .i64 (2))) (.int .i64 (2)) ?_
     refine w_nil (xn_then (w_ret (xr_blk (xr_then ?_))))
     exact w_ret2 _ _ (.int .u8 (bt s (1))) (.int .i64 (2)) rfl rfl rfl ⟨by unfold fb; rw [if_neg (by rw [hf0]; simp), if_neg hf1p, if_pos (Or.inr hf3)], M⟩
    | false =>
     refine w_reg ?_
     refine wl_m (.tmp 0) (.string s) ?_
     refine wl_bin (fun x y => Instr.index 9 x y) (.tmp 24) (.const (.int .i64 (1))) (.string s) (.int .i64 (1)) (.int .u8 (bt s (1))) (fun _ => rfl) rfl rfl (idx_b (k := 1) (by omega) _) rfl ?_
     refine wl_b .eql 5 (.tmp 25) (.const (.int .u8 (34))) (.int .u8 (bt s (1))) (.int .u8 (34)) (.bool false) (eq5r hf2 _ _ _) ?_
     refine wl_m (.tmp 26) (.bool false) ?_
     refine wl_m (.tmp 0) (.string s) ?_
     refine wl_bin (fun x y => Instr.index 9 x y) (.tmp 28) (.const (.int .i64 (1))) (.string s) (.int .i64 (1)) (.int .u8 (bt s (1))) (fun _ => rfl) rfl rfl (idx_b (k := 1) (by omega) _) rfl ?_
     refine wl_b .eql 5 (.tmp 29) (.const (.int .u8 (92))) (.int .u8 (bt s (1))) (.int .u8 (92)) (.bool false) (eq5r hf3 _ _ _) ?_
     refine wl_pick (.tmp 27) (.const (.bool true)) (.tmp 30) false (.bool false) (fun _ => rfl) rfl rfl rfl ?_
     refine wl_m (.tmp 31) (.bool false) ?_
     refine w_nil (xn_then (w_condF rfl (w_seq ?_)))
     cases hf4 : (bt s (1) == 120) with
     | true =>
      cases hf5 : decide (4 ≤ s.size) with
      | true =>
       have hf5p := of_decide_eq_true hf5
       refine w_reg ?_
       refine wl_m (.tmp 0) (.string s) ?_
       refine wl_bin (fun x y => Instr.index 9 x y) (.tmp 35) (.const (.int .i64 (1))) (.string s) (.int .i64 (1)) (.int .u8 (bt s (1))) (fun _ => rfl) rfl rfl (idx_b (k := 1) (by omega) _) rfl ?_
       refine wl_b .eql 5 (.tmp 36) (.const (.int .u8 (120))) (.int .u8 (bt s (1))) (.int .u8 (120)) (.bool true) (eq5r hf4 _ _ _) ?_
       refine wl_m (.tmp 37) (.bool true) ?_
       refine wl_m (.tmp 0) (.string s) ?_
       refine wl_val (.int .i64 ((s.size : Nat) : Int)) (len_s _ _ s (by exact rfl) _ _ _ _ _ _) rfl ?_
       refine wl_b .geq 3 (.tmp 40) (.const (.int .i64 (4))) (.int .i64 ((s.size : Nat) : Int)) (.int .i64 (4)) (.bool true) (geN hf5 _ _ _) ?_
       refine wl_pick (.tmp 38) (.tmp 41) (.const (.bool false)) true (.bool true) (fun _ => rfl) rfl rfl rfl ?_
       refine wl_m (.tmp 42) (.bool true) ?_
       refine w_nil (xn_then (w_condT rfl (w_seq ?_)))
       refine w_any 7 [.inl (.string s), .inl (.int .u8 (bt s (2))), .inl (.string s), .inl (.int .u8 (bt s (3))), .inl (.tuple #[.int .u8 ((hexB (bt s (2)) (bt s (3))).1), .int .i64 ((hexB (bt s (2)) (bt s (3))).2)]), .inl (.int .u8 ((hexB (bt s (2)) (bt s (3))).1)), .inl (.int .i64 ((hexB (bt s (2)) (bt s (3))).2))] [] (by kernel_rfl) (by kernel_rfl) (by kernel_rfl) (by kernel_rfl) rfl (by kernel_rfl) (by kernel_rfl) late_nil ?_ ?_ ?_
       ·exact Ds.none rfl
       ·refine ea_cons ?_ (ea_cons ?_ (ea_cons ?_ (ea_cons ?_ (ea_cons ?_ (ea_cons ?_ (ea_cons ?_ (ea_nil)))))))
        ·exact og_eq _ rfl (fun f wf hq hd K hK => go_run rfl (wo_mv (.tmp 0) (.string s) (fun _ => rfl) rfl (hK _ (Mo.refl _))))
        ·exact og_eq _ rfl (fun f wf hq hd K hK => go_run rfl (wo_bin (fun x y => Instr.index 9 x y) (.tmp 43) (.const (.int .i64 (2))) (.string s) (.int .i64 (2)) (.int .u8 (bt s (2))) (fun _ => rfl) (hd 0 rfl) rfl (idx_b (k := 2) (by omega) _) (hK _ (Mo.refl _))))
        ·exact og_eq _ rfl (fun f wf hq hd K hK => go_run rfl (wo_mv (.tmp 0) (.string s) (fun _ => rfl) rfl (hK _ (Mo.refl _))))
        ·exact og_eq _ rfl (fun f wf hq hd K hK => go_run rfl (wo_bin (fun x y => Instr.index 9 x y) (.tmp 45) (.const (.int .i64 (3))) (.string s) (.int .i64 (3)) (.int .u8 (bt s (3))) (fun _ => rfl) (hd 2 rfl) rfl (idx_b (k := 3) (by omega) _) (hK _ (Mo.refl _))))
        ·exact og_eq _ rfl (fun f wf hq hd K hK => go_run rfl (wo_call 53 [(.tmp 44), (.tmp 46)] _ [.int .u8 (bt s (2)), .int .u8 (bt s (3))] (.tuple #[.int .u8 ((hexB (bt s (2)) (bt s (3))).1), .int .i64 ((hexB (bt s (2)) (bt s (3))).2)]) rfl (li2 (hd 1 rfl) (hd 3 rfl)) (fun _ _ => by kernel_rfl) (hexByte_n (bt s (2)) (bt s (3)) _) hK))
        ·exact og_eq _ rfl (fun f wf hq hd K hK => go_run rfl (wo_un (fun v => Instr.extract v 0) (.tmp 47) (.tuple #[.int .u8 ((hexB (bt s (2)) (bt s (3))).1), .int .i64 ((hexB (bt s (2)) (bt s (3))).2)]) (.int .u8 ((hexB (bt s (2)) (bt s (3))).1)) (fun _ => rfl) (hd 4 rfl) (by kernel_rfl) (hK _ (Mo.refl _))))
        ·exact og_eq _ rfl (fun f wf hq hd K hK => go_run rfl (wo_un (fun v => Instr.extract v 1) (.tmp 47) (.tuple #[.int .u8 ((hexB (bt s (2)) (bt s (3))).1), .int .i64 ((hexB (bt s (2)) (bt s (3))).2)]) (.int .i64 ((hexB (bt s (2)) (bt s (3))).2)) (fun _ => rfl) (hd 4 rfl) (by kernel_rfl) (hK _ (Mo.refl _))))
       intro kf1 w1 hq hR hne
       replace M := M.trans hq
       clear hq hR hne
       refine wl_m (.tmp 48) (.int .u8 ((hexB (bt s (2)) (bt s (3))).1)) ?_
       refine wl_m (.tmp 49) (.int .i64 ((hexB (bt s (2)) (bt s (3))).2)) ?_
       refine w_nil (xn_then (w_ret (xr_blk (xr_then ?_))))
       exact w_ret2 _ _ (.int .u8 ((hexB (bt s (2)) (bt s (3))).1)) (.int .i64 ((hexB (bt s (2)) (bt s (3))).2)) rfl rfl rfl ⟨by unfold fb; rw [if_neg (by rw [hf0]; simp), if_neg hf1p, if_neg (fun e => by rcases e with e | e; (rw [hf2] at e; cases e); (rw [hf3] at e; cases e)), if_pos ⟨hf4, hf5p⟩], M⟩
      | false =>
       have hf5p := of_decide_eq_false hf5
       refine w_reg ?_
       refine wl_m (.tmp 0) (.string s) ?_
       refine wl_bin (fun x y => Instr.index 9 x y) (.tmp 35) (.const (.int .i64 (1))) (.string s) (.int .i64 (1)) (.int .u8 (bt s (1))) (fun _ => rfl) rfl rfl (idx_b (k := 1) (by omega) _) rfl ?_
       refine wl_b .eql 5 (.tmp 36) (.const (.int .u8 (120))) (.int .u8 (bt s (1))) (.int .u8 (120)) (.bool true) (eq5r hf4 _ _ _) ?_
       refine wl_m (.tmp 37) (.bool true) ?_
       refine wl_m (.tmp 0) (.string s) ?_
       refine wl_val (.int .i64 ((s.size : Nat) : Int)) (len_s _ _ s (by exact rfl) _ _ _ _ _ _) rfl ?_
       refine wl_b .geq 3 (.tmp 40) (.const (.int .i64 (4))) (.int .i64 ((s.size : Nat) : Int)) (.int .i64 (4)) (.bool false) (geN hf5 _ _ _) ?_
       refine wl_pick (.tmp 38) (.tmp 41) (.const (.bool false)) true (.bool false) (fun _ => rfl) rfl rfl rfl ?_
       refine wl_m (.tmp 42) (.bool false) ?_
       refine w_nil (xn_then (w_condF rfl (w_skip (xn_blk (xn_then (w_seq (w_reg ?_)))))))
       refine wl_m (.const (.int .u8 (0))) (.int .u8 (0)) ?_
       refine wl_m (.const (.int .i64 (0))) (.int .i64 (0)) ?_
       refine w_nil (xn_then (w_ret ?_))
       exact w_ret2 _ _ (.int .u8 (0)) (.int .i64 (0)) rfl rfl rfl ⟨by unfold fb; rw [if_neg (by rw [hf0]; simp), if_neg hf1p, if_neg (fun e => by rcases e with e | e; (rw [hf2] at e; cases e); (rw [hf3] at e; cases e)), if_neg (fun e => hf5p e.2)], M⟩
     | false =>
      refine w_reg ?_
      refine wl_m (.tmp 0) (.string s) ?_
      refine wl_bin (fun x y => Instr.index 9 x y) (.tmp 35) (.const (.int .i64 (1))) (.string s) (.int .i64 (1)) (.int .u8 (bt s (1))) (fun _ => rfl) rfl rfl (idx_b (k := 1) (by omega) _) rfl ?_
      refine wl_b .eql 5 (.tmp 36) (.const (.int .u8 (120))) (.int .u8 (bt s (1))) (.int .u8 (120)) (.bool false) (eq5r hf4 _ _ _) ?_
      refine wl_m (.tmp 37) (.bool false) ?_
      refine wl_skip rfl (wl_skip rfl (wl_skip rfl ?_))
      refine wl_pick (.tmp 38) (.tmp 41) (.const (.bool false)) false (.bool false) (fun _ => rfl) rfl rfl rfl ?_
      refine wl_m (.tmp 42) (.bool false) ?_
      refine w_nil (xn_then (w_condF rfl (w_skip (xn_blk (xn_then (w_seq (w_reg ?_)))))))
      refine wl_m (.const (.int .u8 (0))) (.int .u8 (0)) ?_
      refine wl_m (.const (.int .i64 (0))) (.int .i64 (0)) ?_
      refine w_nil (xn_then (w_ret ?_))
      exact w_ret2 _ _ (.int .u8 (0)) (.int .i64 (0)) rfl rfl rfl ⟨by unfold fb; rw [if_neg (by rw [hf0]; simp), if_neg hf1p, if_neg (fun e => by rcases e with e | e; (rw [hf2] at e; cases e); (rw [hf3] at e; cases e)), if_neg (fun e => by rw [hf4] at e; cases e.1)], M⟩
 | false =>
  refine w_reg ?_
  refine wl_m (.tmp 0) (.string s) ?_
  refine wl_bin (fun x y => Instr.index 9 x y) (.tmp 5) (.const (.int .i64 (0))) (.string s) (.int .i64 (0)) (.int .u8 (bt s (0))) (fun _ => rfl) rfl rfl (idx_b (k := 0) (by omega) _) rfl ?_
  refine wl_b .neq 5 (.tmp 6) (.const (.int .u8 (92))) (.int .u8 (bt s (0))) (.int .u8 (92)) (.bool true) (ne5r hf0 _ _ _) ?_
  refine wl_m (.tmp 7) (.bool true) ?_
  refine w_nil (xn_then (w_condT rfl (w_seq (w_seq ?_))))
  cases hf1 : (bt s (0) == 34) with
  | true =>
   refine w_reg ?_
   refine wl_m (.tmp 0) (.string s) ?_
   refine wl_bin (fun x y => Instr.index 9 x y) (.tmp 8) (.const (.int .i64 (0))) (.string s) (.int .i64 (0)) (.int .u8 (bt s (0))) (fun _ => rfl) rfl rfl (idx_b (k := 0) (by omega) _) rfl ?_
   refine wl_b .eql 5 (.tmp 9) (.const (.int .u8 (34))) (.int .u8 (bt s (0))) (.int .u8 (34)) (.bool true) (eq5r hf1 _ _ _) ?_
   refine wl_m (.tmp 10) (.bool true) ?_
   refine wl_skip rfl (wl_skip rfl (wl_skip rfl (wl_skip rfl ?_)))
   refine wl_pick (.tmp 11) (.const (.bool true)) (.tmp 15) true (.bool true) (fun _ => rfl) rfl rfl rfl ?_
   refine w_nil (xn_then (w_condT rfl (w_seq (w_reg ?_))))
   refine wl_m (.const (.int .u8 (0))) (.int .u8 (0)) ?_
   refine wl_m (.const (.int .i64 (0))) (.int .i64 (0)) ?_
   refine w_nil (xn_then (w_ret (xr_then (xr_blk (xr_then ?_)))))
   exact w_ret2 _ _ (.int .u8 (0)) (.int .i64 (0)) rfl rfl rfl ⟨by unfold fb; rw [if_pos hf0, if_pos (Or.inl hf1)], M⟩
  | false =>
   cases hf2 : prn (bt s (0)) with
   | true =>
    refine w_reg ?_
    refine wl_m (.tmp 0) (.string s) ?_
    refine wl_bin (fun x y => Instr.index 9 x y) (.tmp 8) (.const (.int .i64 (0))) (.string s) (.int .i64 (0)) (.int .u8 (bt s (0))) (fun _ => rfl) rfl rfl (idx_b (k := 0) (by omega) _) rfl ?_
    refine wl_b .eql 5 (.tmp 9) (.const (.int .u8 (34))) (.int .u8 (bt s (0))) (.int .u8 (34)) (.bool false) (eq5r hf1 _ _ _) ?_
    refine wl_m (.tmp 10) (.bool false) ?_
    refine wl_m (.tmp 0) (.string s) ?_
    refine wl_bin (fun x y => Instr.index 9 x y) (.tmp 12) (.const (.int .i64 (0))) (.string s) (.int .i64 (0)) (.int .u8 (bt s (0))) (fun _ => rfl) rfl rfl (idx_b (k := 0) (by omega) _) rfl ?_
    refine wl_call 43 [(.tmp 13)] _ [.int .u8 (bt s (0))] (.bool true) rfl rfl (fun _ _ => by kernel_rfl) (prn_c hf2 _) rfl ?_
    intro w1 hq
    replace M := M.trans hq
    clear hq
    refine wl_un (fun v => Op.unary .not v) (.tmp 14) (.bool true) (.bool false) (fun _ => rfl) rfl (by kernel_rfl) rfl ?_
    refine wl_pick (.tmp 11) (.const (.bool true)) (.tmp 15) false (.bool false) (fun _ => rfl) rfl rfl rfl ?_
    refine w_nil (xn_then (w_condF rfl (w_skip (xn_then (w_seq (w_reg ?_))))))
    refine wl_m (.tmp 0) (.string s) ?_
    refine wl_bin (fun x y => Instr.index 9 x y) (.tmp 17) (.const (.int .i64 (0))) (.string s) (.int .i64 (0)) (.int .u8 (bt s (0))) (fun _ => rfl) rfl rfl (idx_b (k := 0) (by omega) _) rfl ?_
    refine wl_m (.tmp 18) (.int .u8 (bt s (0))) ?_
    refine wl_m (.const (.int .i64 (1))) (.int .i64 (1)) ?_
    refine w_nil (xn_then (w_ret (xr_blk (xr_then ?_))))
    exact w_ret2 _ _ (.int .u8 (bt s (0))) (.int .i64 (1)) rfl rfl rfl ⟨by unfold fb; rw [if_pos hf0, if_neg (fun e => by rcases e with e | e; (rw [hf1] at e; cases e); (rw [hf2] at e; cases e))], M⟩
   | false =>
    refine w_reg ?_
    refine wl_m (.tmp 0) (.string s) ?_
    refine wl_bin (fun x y => Instr.index 9 x y) (.tmp 8) (.const (.int .i64 (0))) (.string s) (.int .i64 (0)) (.int .u8 (bt s (0))) (fun _ => rfl) rfl rfl (idx_b (k := 0) (by omega) _) rfl ?_
    refine wl_b .eql 5 (.tmp 9) (.const (.int .u8 (34))) (.int .u8 (bt s (0))) (.int .u8 (34)) (.bool false) (eq5r hf1 _ _ _) ?_
    refine wl_m (.tmp 10) (.bool false) ?_
    refine wl_m (.tmp 0) (.string s) ?_
    refine wl_bin (fun x y => Instr.index 9 x y) (.tmp 12) (.const (.int .i64 (0))) (.string s) (.int .i64 (0)) (.int .u8 (bt s (0))) (fun _ => rfl) rfl rfl (idx_b (k := 0) (by omega) _) rfl ?_
    refine wl_call 43 [(.tmp 13)] _ [.int .u8 (bt s (0))] (.bool false) rfl rfl (fun _ _ => by kernel_rfl) (prn_c hf2 _) rfl ?_
    intro w1 hq
    replace M := M.trans hq
    clear hq
    refine wl_un (fun v => Op.unary .not v) (.tmp 14) (.bool false) (.bool true) (fun _ => rfl) rfl (by kernel_rfl) rfl ?_
    refine wl_pick (.tmp 11) (.const (.bool true)) (.tmp 15) false (.bool true) (fun _ => rfl) rfl rfl rfl ?_
    refine w_nil (xn_then (w_condT rfl (w_seq (w_reg ?_))))
    refine wl_m (.const (.int .u8 (0))) (.int .u8 (0)) ?_
    refine wl_m (.const (.int .i64 (0))) (.int .i64 (0)) ?_
    refine w_nil (xn_then (w_ret (xr_then (xr_blk (xr_then ?_)))))
    exact w_ret2 _ _ (.int .u8 (0)) (.int .i64 (0)) rfl rfl rfl ⟨by unfold fb; rw [if_pos hf0, if_pos (Or.inr hf2)], M⟩
end Go.Proofs.YthgknegocfhdbaaDoor
/-
 A decimal text and its parts.
-/
namespace Go.Proofs.YthgknegocfhdbaaDoor
open Go.RowKit
def sg8 (b : Bool) : List UInt8 := if b then [45] else []
def tn (o : Option UInt8) : Int := match o with | none => 0 | some x => (x.toNat : Int)
theorem bt_tn (s : ByteArray) (k : Nat) : bt s k = tn ((by8 s)[k]?) := by
 by_cases h : k < s.size
 ·rw [bt_in h]
  have h2 : k < (by8 s).length := by rw [by8_len]; exact h
  rw [List.getElem?_eq_getElem h2]
  rfl
 ·rw [bt_out h]
  have h2 : ¬ k < (by8 s).length := by rw [by8_len]; exact h
  rw [List.getElem?_eq_none (by omega)]
  rfl
structure Df (l : List UInt8) (b : Bool) (A B : List UInt8) : Prop where
 eq : l = sg8 b ++ (A ++ (if B = [] then [] else 46 :: B))
 ne : A ≠ []
 ad : ∀ x ∈ A, isD x = true
 bd : ∀ x ∈ B, isD x = true
 ld : A.length = 1 ∨ A.head? ≠ some 48
 some : b = true → ∃ x ∈ A ++ B, x ≠ 48
theorem run_dig {s : ByteArray} {k n : Nat} (hn : k + n ≤ re s k) {x : UInt8} (hx : x ∈ ((by8 s).drop k).take n) : isD x = true := by
 obtain ⟨j, hj, rfl⟩ := List.getElem_of_mem hx
 have h1 : j < n := by simp at hj; omega
 have h2 := re_in (s := s) (k := k) (j := k + j) (by omega) (by omega)
 rw [bt_tn] at h2
 have h3 : k + j < (by8 s).length := by simp at hj ⊢; omega
 rw [List.getElem?_eq_getElem h3] at h2
 have e : (((by8 s).drop k).take n)[j] = (by8 s)[k + j] := by simp
 rw [e]; exact h2
theorem drop_run (l : List UInt8) (k e : Nat) (h : k ≤ e) : l.drop k = (l.drop k).take (e - k) ++ l.drop e := by
 conv => lhs; rw [← List.take_append_drop (e - k) (l.drop k)]
 rw [List.drop_drop, show k + (e - k) = e by omega]
theorem tn48 {o : Option UInt8} (h : tn o ≠ 48) : o ≠ some 48 := fun e => h (by rw [e]; rfl)
theorem nz_of {s : ByteArray} {k : Nat} (hk : k ≤ s.size) (h : az s k = false) : ∃ x ∈ ((by8 s).drop k).take (re s k - k), x ≠ 48 := by
 have h1 : ¬ ∀ j, k ≤ j → j < re s k → bt s j = 48 := fun h2 => by rw [az_iff.2 h2] at h; cases h
 simp only [Classical.not_forall] at h1
 obtain ⟨j, h2, h3, h4⟩ := h1
 have h5 := re_le hk
 have h6 : j < (by8 s).length := by rw [by8_len]; omega
 rw [bt_tn, List.getElem?_eq_getElem h6] at h4
 refine ⟨(by8 s)[j], ?_, fun e => h4 (by rw [e]; rfl)⟩
 rw [List.mem_iff_getElem]
 exact ⟨j - k, by simp; rw [← by8_len] at h5; simp at h5 h6; omega, by simp only [List.getElem_take, List.getElem_drop]; congr 1; omega⟩
theorem df_of {s : ByteArray} {p : Nat} {b : Bool} (hp : p ≤ s.size) (hsg : by8 s = sg8 b ++ (by8 s).drop p) (h : whp s p b = true) : ∃ A B, Df (by8 s) b A B ∧ (by8 s).drop p = A ++ (if B = [] then [] else 46 :: B) := by
 unfold whp at h
 simp only [Bool.and_eq_true, decide_eq_true_iff, Bool.not_eq_true'] at h
 obtain ⟨⟨h1, h2⟩, h3⟩ := h
 have hge := re_ge s p
 have hle := re_le hp
 have hl := by8_len s
 have hA : ((by8 s).drop p).take (re s p - p) ≠ [] := fun e => by
  have := congrArg List.length e; simp only [List.length_take, List.length_drop, List.length_nil, hl] at this; omega
 have had : ∀ x ∈ ((by8 s).drop p).take (re s p - p), isD x = true := fun x hx => run_dig (by omega) hx
 have hld : (((by8 s).drop p).take (re s p - p)).length = 1 ∨ (((by8 s).drop p).take (re s p - p)).head? ≠ some 48 := by
  by_cases h48 : bt s p = 48
  ·left
   rw [h48] at h2; simp at h2
   simp only [List.length_take, List.length_drop, hl]; omega
  ·right
   rw [bt_tn] at h48
   rw [List.head?_eq_getElem?, List.getElem?_take_of_lt (by omega), List.getElem?_drop]
   exact tn48 h48
 by_cases he : re s p < s.size
 ·rw [if_pos he] at h3
  simp only [Bool.and_eq_true, decide_eq_true_iff, beq_iff_eq, Bool.or_eq_true, Bool.not_eq_true'] at h3
  obtain ⟨⟨⟨h4, h5⟩, h6⟩, h7⟩ := h3
  have hlt : re s p < (by8 s).length := by omega
  have e1 : (by8 s).drop (re s p) = 46 :: (by8 s).drop (re s p + 1) := by
   rw [List.drop_eq_getElem_cons hlt]
   rw [bt_tn, List.getElem?_eq_getElem hlt] at h4
   congr 1
   have h8 : (((by8 s)[re s p]).toNat : Int) = 46 := h4
   apply UInt8.toNat_inj.1
   have : (46 : UInt8).toNat = 46 := rfl
   omega
  have hB : (by8 s).drop (re s p + 1) ≠ [] := fun e => by
   have := congrArg List.length e; simp only [List.length_drop, List.length_nil, hl] at this; omega
  have hBt : ((by8 s).drop (re s p + 1)).take (re s (re s p + 1) - (re s p + 1)) = (by8 s).drop (re s p + 1) := by
   rw [List.take_of_length_le]; simp only [List.length_drop, hl]; omega
  have e2 : (by8 s).drop p = ((by8 s).drop p).take (re s p - p) ++ (if (by8 s).drop (re s p + 1) = [] then [] else 46 :: (by8 s).drop (re s p + 1)) := by
   rw [if_neg hB, ← e1]; exact drop_run _ _ _ hge
  refine ⟨_, (by8 s).drop (re s p + 1), ⟨?_, hA, had, fun x hx => ?_, hld, fun hb => ?_⟩, e2⟩
  ·exact hsg.trans (congrArg (sg8 b ++ ·) e2)
  ·rw [← hBt] at hx; exact run_dig (by omega) hx
  ·rcases h7 with (h7 | h7) | h7
   ·obtain ⟨x, hx, hn⟩ := nz_of hp h7
    exact ⟨x, List.mem_append_left _ hx, hn⟩
   ·obtain ⟨x, hx, hn⟩ := nz_of (by omega) h7
    rw [hBt] at hx
    exact ⟨x, List.mem_append_right _ hx, hn⟩
   ·rw [hb] at h7; cases h7
 ·rw [if_neg he] at h3
  have e2 : (by8 s).drop p = ((by8 s).drop p).take (re s p - p) ++ (if ([] : List UInt8) = [] then [] else 46 :: []) := by
   rw [if_pos rfl, List.append_nil, List.take_of_length_le]; simp only [List.length_drop, hl]; omega
  refine ⟨_, [], ⟨?_, hA, had, fun x hx => (by cases hx), hld, fun hb => ?_⟩, e2⟩
  ·exact hsg.trans (congrArg (sg8 b ++ ·) e2)
  ·rw [hb] at h3
   simp only [Bool.or_eq_true, Bool.not_eq_true', Bool.not_true, Bool.false_eq_true, or_false] at h3
   obtain ⟨x, hx, hn⟩ := nz_of hp h3
   exact ⟨x, List.mem_append_left _ hx, hn⟩
theorem df_dec {s : ByteArray} (h : isDec s = true) : ∃ b A B, Df (by8 s) b A B := by
 rw [← whl_dec] at h
 unfold whl at h
 cases hb : (bt s 0 == 45) with
 | true =>
  rw [hb, if_pos rfl] at h
  have hin := eq_in (by decide) hb
  have h45 : by8 s = sg8 true ++ (by8 s).drop 1 := by
   have h0 : 0 < (by8 s).length := by rw [by8_len]; exact hin
   rw [bt_tn, List.getElem?_eq_getElem h0] at hb
   have h8 : (((by8 s)[0]).toNat : Int) = 45 := eq_of_beq hb
   have e : (by8 s)[0] = 45 := by
    apply UInt8.toNat_inj.1
    have : (45 : UInt8).toNat = 45 := rfl
    omega
   have e2 := List.drop_eq_getElem_cons h0
   rw [e] at e2
   exact e2
  obtain ⟨A, B, h1, _⟩ := df_of (by omega) h45 h
  exact ⟨true, A, B, h1⟩
 | false =>
  rw [hb, if_neg (by simp)] at h
  obtain ⟨A, B, h1, _⟩ := df_of (b := false) (by omega) rfl h
  exact ⟨false, A, B, h1⟩
theorem tn_in {x : UInt8} (h : isD x = true) : dgt (tn (some x)) = true := h
theorem dec_df {s : ByteArray} {b : Bool} {A B : List UInt8} (h : Df (by8 s) b A B) : isDec s = true := by
 have hl := by8_len s
 obtain ⟨heq, hne, had, hbd, hld, hsome⟩ := h
 have hApos : 0 < A.length := List.length_pos_iff.2 hne
 -- the letters
 have hA : ∀ (p : Nat) (S : List UInt8), by8 s = S ++ (A ++ (if B = [] then [] else 46 :: B)) → p = S.length →
   whp s p b = true := fun p S e hp => by
  have hgA : ∀ j, (hj : j < A.length) → bt s (p + j) = tn (some A[j]) := fun j hj => by
   rw [bt_tn, e, List.getElem?_append_right (by omega), hp, Nat.add_sub_cancel_left, List.getElem?_append_left hj, List.getElem?_eq_getElem hj]
  have hsz : s.size = p + A.length + (if B = [] then 0 else B.length + 1) := by
   rw [← hl, e]; simp only [List.length_append, hp]; split <;> simp <;> omega
  have hend : dgt (bt s (p + A.length)) = false := by
   rw [bt_tn, e, List.getElem?_append_right (by omega), hp, Nat.add_sub_cancel_left, List.getElem?_append_right (Nat.le_refl _), Nat.sub_self]
   split <;> rfl
  have hre : re s p = p + A.length := re_eq (by omega) (fun j h1 h2 => by
   have := hgA (j - p) (by omega)
   rw [show p + (j - p) = j by omega] at this
   rw [this]; exact tn_in (had _ (List.getElem_mem _))) hend
  have haz : az s p = true → ∀ x ∈ A, x = 48 := fun h x hx => by
   obtain ⟨j, hj, rfl⟩ := List.getElem_of_mem hx
   have h1 := az_iff.1 h (p + j) (by omega) (by omega)
   rw [hgA j hj] at h1
   apply UInt8.toNat_inj.1
   have e48 : (48 : UInt8).toNat = 48 := rfl
   have h1' : ((A[j]).toNat : Int) = 48 := h1
   omega
  unfold whp
  rw [hre]
  have h48 : ((bt s p == 48) && decide (p + A.length > p + 1)) = false := by
   rcases hld with hl1 | hl1
   ·rw [hl1]; simp
   ·have : (bt s p == 48) = false := beq_eq_false_iff_ne.2 fun e2 => hl1 (by
     have h0 := hgA 0 hApos
     rw [Nat.add_zero, e2] at h0
     rw [List.head?_eq_getElem?, List.getElem?_eq_getElem hApos]
     congr 1
     apply UInt8.toNat_inj.1
     have e48 : (48 : UInt8).toNat = 48 := rfl
     have h1' : (48 : Int) = ((A[0]).toNat : Int) := h0
     omega)
    rw [this]; rfl
  rw [h48]
  have hne2 : decide (p + A.length ≠ p) = true := decide_eq_true (by omega)
  rw [hne2]
  by_cases hB : B = []
  ·rw [if_pos hB] at hsz
   rw [if_neg (by omega)]
   cases hb : b with
   | false => simp
   | true =>
    obtain ⟨x, hx, hn⟩ := hsome hb
    rw [hB, List.append_nil] at hx
    cases ha : az s p with
    | false => simp
    | true => exact absurd (haz ha x hx) hn
  ·rw [if_neg hB] at hsz
   have hBpos : 0 < B.length := List.length_pos_iff.2 hB
   rw [if_pos (by omega)]
   have hgB : ∀ j, (hj : j < B.length) → bt s (p + A.length + 1 + j) = tn (some B[j]) := fun j hj => by
    rw [bt_tn, e, List.getElem?_append_right (by omega), hp, show S.length + A.length + 1 + j - S.length = A.length + (1 + j) by omega, List.getElem?_append_right (by omega), Nat.add_sub_cancel_left, if_neg hB, Nat.add_comm 1 j, List.getElem?_cons_succ, List.getElem?_eq_getElem hj]
   have h46 : (bt s (p + A.length) == 46) = true := by
    rw [bt_tn, e, List.getElem?_append_right (by omega), hp, Nat.add_sub_cancel_left, List.getElem?_append_right (Nat.le_refl _), Nat.sub_self, if_neg hB]
    rfl
   have hre2 : re s (p + A.length + 1) = s.size := re_eq (by omega) (fun j h1 h2 => by
    have := hgB (j - (p + A.length + 1)) (by omega)
    rw [show p + A.length + 1 + (j - (p + A.length + 1)) = j by omega] at this
    rw [this]; exact tn_in (hbd _ (List.getElem_mem _))) (by rw [bt_out (by omega)]; rfl)
   have haz2 : az s (p + A.length + 1) = true → ∀ x ∈ B, x = 48 := fun h x hx => by
    obtain ⟨j, hj, rfl⟩ := List.getElem_of_mem hx
    have h1 := az_iff.1 h (p + A.length + 1 + j) (by omega) (by omega)
    rw [hgB j hj] at h1
    apply UInt8.toNat_inj.1
    have e48 : (48 : UInt8).toNat = 48 := rfl
    have h1' : ((B[j]).toNat : Int) = 48 := h1
    omega
   rw [h46, hre2, decide_eq_true (show p + A.length + 1 ≠ s.size by omega)]
   cases hb : b with
   | false => simp
   | true =>
    obtain ⟨x, hx, hn⟩ := hsome hb
    cases ha : az s p with
    | false => simp
    | true =>
     cases ha2 : az s (p + A.length + 1) with
     | false => simp
     | true =>
      rcases List.mem_append.1 hx with hx | hx
      ·exact absurd (haz ha x hx) hn
      ·exact absurd (haz2 ha2 x hx) hn
 have h0 : ∀ x y : UInt8, x = y → True := fun _ _ _ => trivial
 rw [← whl_dec]
 unfold whl
 cases hb : b with
 | true =>
  rw [hb] at heq hA
  have : (bt s 0 == 45) = true := by rw [bt_tn, heq]; rfl
  rw [this, if_pos rfl]
  exact hA 1 _ heq rfl
 | false =>
  rw [hb] at heq hA
  have : (bt s 0 == 45) = false := by
   rw [bt_tn, heq]
   cases A with
   | nil => exact absurd rfl hne
   | cons a r =>
    have h1 := had a (by simp)
    refine beq_eq_false_iff_ne.2 fun e => ?_
    have e2 : (a.toNat : Int) = 45 := e
    unfold isD at h1
    rw [e2] at h1
    cases h1
  rw [this, if_neg (by simp)]
  exact hA 0 _ heq rfl
end Go.Proofs.YthgknegocfhdbaaDoor

/-
 The longest beginning that is a decimal text: it is one, and no longer one is.
-/
namespace Go.Proofs.YthgknegocfhdbaaDoor
open Go.RowKit
theorem fi_le {s : ByteArray} {p : Nat} {b : Bool} (hp : p ≤ s.size) : fi s p b ≤ s.size := by
 unfold fi
 split
 ·rename_i h
  have hin := eq_in (by decide) h
  unfold ah
  split
  ·rename_i h2
   simp only [Bool.and_eq_true] at h2
   have := dgt_in h2.2
   have := re_le (s := s) (k := p + 1 + 1) (by omega)
   split
   ·split <;> omega
   ·omega
  ·split <;> omega
 ·split
  ·have h1 := re_le hp
   unfold ah
   split
   ·rename_i h2
    simp only [Bool.and_eq_true] at h2
    have := dgt_in h2.2
    have := re_le (s := s) (k := re s p + 1) (by omega)
    simp; omega
   ·simp; omega
  ·omega
theorem pfx_le (s : ByteArray) : pfx s ≤ s.size := by
 unfold pfx
 split
 ·rename_i h
  have := eq_in (by decide) h
  exact fi_le (by omega)
 ·exact fi_le (by omega)
end Go.Proofs.YthgknegocfhdbaaDoor

/-
 lex.reach: of which kind a word is, and where it ends.
-/
namespace Go.Proofs.YthgknegocfhdbaaDoor
open Go.RowKit
theorem mid_run (ρ : Operand → Value) (x y z : Operand) (s : ByteArray) (a b : Nat) (hx : ρ x = .string s) (hy : ρ y = .int .i64 (a : Int)) (hz : ρ z = .int .i64 (b : Int)) (h1 : a ≤ b) (h2 : b ≤ s.size) (dst : Option Tmp) (type : TypeId) (pos : String) (after : Array Edge) (guard : Option (Nat × Bool)) (w : World) :
  (execOp ρ { dst, op := .slice 9 x (some y) (some z) none, type, pos, after, guard }).run Tryd.prog w = .ok (.value (.string (s.extract a b))) w := by
 have h3 : (a : Int) ≤ (b : Int) := by omega
 have h4 : (b : Int) ≤ (s.size : Int) := by omega
 simp [go_sem, hx, hy, hz, h3, h4]
theorem lo2_run (ρ : Operand → Value) (x y : Operand) (s : ByteArray) (a : Nat) (hx : ρ x = .string s) (hy : ρ y = .int .i64 (a : Int)) (h1 : a ≤ s.size) (dst : Option Tmp) (type : TypeId) (pos : String) (after : Array Edge) (guard : Option (Nat × Bool)) (w : World) :
  (execOp ρ { dst, op := .slice 9 x (some y) none none, type, pos, after, guard }).run Tryd.prog w = .ok (.value (.string (s.extract a s.size))) w := by
 have h3 : (a : Int) ≤ (s.size : Int) := by omega
 have h0 : (0 : Int) ≤ (a : Int) := by omega
 simp [go_sem, hx, hy, h3, h0]
theorem ltr_in {s : ByteArray} {k : Nat} (h : (ltr (bt s k) || dgt (bt s k)) = true) : k < s.size := by
 by_cases hk : k < s.size
 ·exact hk
 ·rw [bt_out hk] at h; cases h
def nme (s : ByteArray) (k : Nat) : Nat := if h : (ltr (bt s k) || dgt (bt s k)) = true then nme s (k + 1) else k
termination_by s.size - k
decreasing_by have := ltr_in h; omega
theorem nme_on {s : ByteArray} {k : Nat} (h : (ltr (bt s k) || dgt (bt s k)) = true) : nme s k = nme s (k + 1) := by rw [nme, dif_pos h]
theorem nme_end {s : ByteArray} {k : Nat} (h : (ltr (bt s k) || dgt (bt s k)) = false) : nme s k = k := by rw [nme, dif_neg (by rw [h]; simp)]
def qte (s : ByteArray) (a k : Nat) : Nat := if h : k + 1 < s.size then (if (bt s (k + 1) == 92) = true then qte s a (k + 2) else if (bt s (k + 1) == 34) = true then k + 2 else qte s a (k + 1)) else a
termination_by s.size - k
decreasing_by
 ·omega
 ·omega
def rch (s : ByteArray) (k : Nat) : Nat × Nat :=
 if ltr (bt s k) = true then (1, nme s (k + 1)) else if dgt (bt s k) = true then (2, k + pfx (s.extract k s.size))
 else if (bt s k == 34) = true then (3, qte s k k) else (4, if k + 2 ≤ s.size ∧ symb (s.extract k (k + 2)) = true then k + 2 else k + 1)
def RP (s : ByteArray) (k : Nat) : Nat → Nat → Prop
 | 0, e => e < s.size ∧ rch s k = (1, nme s (e + 1))
 | 1, _ => rch s k = (2, k + pfx (s.extract k s.size))
 | 2, e => e ≤ s.size ∧ rch s k = (3, qte s k e)
 | 3, _ => rch s k = (4, if k + 2 ≤ s.size ∧ symb (s.extract k (k + 2)) = true then k + 2 else k + 1)
 | _, _ => False
def RI (s : ByteArray) (k : Nat) (w : World) (i m : Nat) (l : List (Nat × Value)) (w1 : World) : Prop :=
 ∃ e : Nat, look l 0 = .string s ∧ look l 1 = .int .i64 (k : Int) ∧ look l 6 = .int .i64 (e : Int) ∧ m = s.size + 5 - e ∧ RP s k i e ∧ Mo w w1
theorem sym_c {s : ByteArray} {r : Bool} (h : symb s = r) (w : World) : Calls Tryd.prog 18 #[.string s] w fun e w' => e = .returned (.bool r) ∧ Mo w w' := h ▸ sym_n s w
theorem leN {a b : Nat} {r : Bool} (h : decide (a ≤ b) = r) (x y : Operand) (w : World) : (do eqGuard .leq 3 x y (.int .i64 (a : Int)) (.int .i64 (b : Int)); binOp .leq 3 (.int .i64 (a : Int)) (.int .i64 (b : Int))).run Tryd.prog w = .ok (.bool r) w := by
 subst h; simp [go_sem]
theorem reach_n (s : ByteArray) (k : Nat) (w : World) (hs : s.size ≤ maxLen - 8) (hk : k < s.size) : Calls Tryd.prog 27 #[.string s, .int .i64 ((k : Nat) : Int)] w fun e w' => e = .returned (.tuple #[.int .i64 ((rch s k).1 : Nat), .int .i64 ((rch s k).2 : Nat)]) ∧ Mo w w' := by
 unfold maxLen at hs
 refine w_enter 79 Tryd.func27 Tryd.ntmps27 rfl rfl ?_
 have M : Mo w w := Mo.refl _
 refine w_seq (w_reg ?_)
 refine wl_m (.const (.int .i64 (0))) (.int .i64 (0)) ?_
 refine wl_m (.const (.int .i64 (0))) (.int .i64 (0)) ?_
 refine w_nil (xn_then ?_)
 refine w_scope1 (RI s k w) ?_ ?_ ?_
 ·rintro i m l w1 ⟨e, _, _, _, _, hp, _⟩
  match i, hp with
  | 0, _ => rfl
  | 1, _ => rfl
  | 2, _ => rfl
  | 3, _ => rfl
 ·skip
  refine w_seq (w_reg ?_)
  refine wl_m (.tmp 1) (.int .i64 ((k : Nat) : Int)) ?_
  refine wl_m (.tmp 9) (.int .i64 ((k : Nat) : Int)) ?_
  refine w_nil (xn_then (w_seq (w_seq (w_reg ?_))))
  refine wl_m (.tmp 0) (.string s) ?_
  refine wl_m (.tmp 1) (.int .i64 ((k : Nat) : Int)) ?_
  refine wl_bin (fun x y => Instr.index 9 x y) (.tmp 10) (.tmp 11) (.string s) (.int .i64 ((k : Nat) : Int)) (.int .u8 (bt s (k))) (fun _ => rfl) rfl rfl (idx_b (k := k) (by omega) _) rfl ?_
  refine wl_m (.tmp 12) (.int .u8 (bt s (k))) ?_
  refine w_nil (xn_then (w_block (w_seq ?_)))
  cases hf0 : ltr (bt s (k)) with
  | true =>
   refine w_reg ?_
   refine wl_m (.tmp 7) (.int .u8 (bt s (k))) ?_
   refine wl_call 37 [(.tmp 14)] _ [.int .u8 (bt s (k))] (.bool true) rfl rfl (fun _ _ => by kernel_rfl) (ltr_c hf0 isLetter_n _) rfl ?_
   intro w1 hq
   replace M := M.trans hq
   clear hq
   refine wl_m (.tmp 15) (.bool true) ?_
   refine w_nil (xn_then (w_condT rfl ?_))
   refine w_goto ?_
   refine xg_blk ?_
   refine xg_then ?_
   exact xg_jump0 _ ⟨k, rfl, rfl, rfl, rfl, ⟨hk, by unfold rch; rw [if_pos hf0]⟩, M⟩
  | false =>
   refine w_reg ?_
   refine wl_m (.tmp 7) (.int .u8 (bt s (k))) ?_
   refine wl_call 37 [(.tmp 14)] _ [.int .u8 (bt s (k))] (.bool false) rfl rfl (fun _ _ => by kernel_rfl) (ltr_c hf0 isLetter_n _) rfl ?_
   intro w1 hq
   replace M := M.trans hq
   clear hq
   refine wl_m (.tmp 15) (.bool false) ?_
   refine w_nil (xn_then (w_condF rfl (w_seq ?_)))
   cases hf1 : dgt (bt s (k)) with
   | true =>
    refine w_reg ?_
    refine wl_m (.tmp 7) (.int .u8 (bt s (k))) ?_
    refine wl_call 38 [(.tmp 17)] _ [.int .u8 (bt s (k))] (.bool true) rfl rfl (fun _ _ => by kernel_rfl) (dgt_c hf1 lisDigit_n _) rfl ?_
    intro w2 hq
    replace M := M.trans hq
    clear hq
    refine wl_m (.tmp 18) (.bool true) ?_
    refine w_nil (xn_then (w_condT rfl ?_))
    refine w_goto ?_
    refine xg_blk ?_
    refine xg_then ?_
    exact xg_jump0 _ ⟨k, rfl, rfl, rfl, rfl, (by show rch s k = _; unfold rch; rw [if_neg (by rw [hf0]; simp), if_pos hf1]), M⟩
   | false =>
    refine w_reg ?_
    refine wl_m (.tmp 7) (.int .u8 (bt s (k))) ?_
    refine wl_call 38 [(.tmp 17)] _ [.int .u8 (bt s (k))] (.bool false) rfl rfl (fun _ _ => by kernel_rfl) (dgt_c hf1 lisDigit_n _) rfl ?_
    intro w2 hq
    replace M := M.trans hq
    clear hq
    refine wl_m (.tmp 18) (.bool false) ?_
    refine w_nil (xn_then (w_condF rfl (w_seq ?_)))
    cases hf2 : (bt s (k) == 34) with
    | true =>
     refine w_reg ?_
     refine wl_m (.tmp 7) (.int .u8 (bt s (k))) ?_
     refine wl_b .eql 5 (.tmp 20) (.const (.int .u8 (34))) (.int .u8 (bt s (k))) (.int .u8 (34)) (.bool true) (eq5r hf2 _ _ _) ?_
     refine wl_m (.tmp 21) (.bool true) ?_
     refine w_nil (xn_then (w_condT rfl ?_))
     refine w_goto ?_
     refine xg_blk ?_
     refine xg_then ?_
     exact xg_jump0 _ ⟨k, rfl, rfl, rfl, rfl, ⟨by omega, by unfold rch; rw [if_neg (by rw [hf0]; simp), if_neg (by rw [hf1]; simp), if_pos hf2]⟩, M⟩
    | false =>
     refine w_reg ?_
     refine wl_m (.tmp 7) (.int .u8 (bt s (k))) ?_
     refine wl_b .eql 5 (.tmp 20) (.const (.int .u8 (34))) (.int .u8 (bt s (k))) (.int .u8 (34)) (.bool false) (eq5r hf2 _ _ _) ?_
     refine wl_m (.tmp 21) (.bool false) ?_
     refine w_nil (xn_then (w_condF rfl (w_skip (xn_blk (xn_then (w_seq ?_))))))
     refine w_goto ?_
     refine xg_then ?_
     exact xg_jump0 _ ⟨k, rfl, rfl, rfl, rfl, (by show rch s k = _; unfold rch; rw [if_neg (by rw [hf0]; simp), if_neg (by rw [hf1]; simp), if_neg (by rw [hf2]; simp)]), M⟩
 ·clear M
  rintro i m l wl ⟨e, e0, e1, e6, hm, hp, M⟩
  subst hm
  match i, hp with
  | 0, hp =>
   obtain ⟨he, hr⟩ := hp
   refine w_seq (w_skip (xn_then (w_seq (w_reg ?_))))
   refine wl_mv (.tmp 6) (.int .i64 ((e : Nat) : Int)) (fun _ => rfl) e6 rfl ?_
   refine wl_b .add 3 (.tmp 22) (.const (.int .i64 (1))) (.int .i64 ((e : Nat) : Int)) (.int .i64 (1)) (.int .i64 ((e + 1 : Nat) : Int)) (addk (a := e) (b := 1) rfl (by omega) _ _ _) ?_
   refine wl_m (.tmp 23) (.int .i64 ((e + 1 : Nat) : Int)) ?_
   refine w_nil (xn_then (w_seq (w_seq (w_reg ?_))))
   refine wl_mv (.tmp 0) (.string s) (fun _ => rfl) e0 rfl ?_
   refine wl_m (.tmp 6) (.int .i64 ((e + 1 : Nat) : Int)) ?_
   refine wl_call 35 [(.tmp 24), (.tmp 25)] _ [.string s, .int .i64 ((e + 1 : Nat) : Int)] (.int .u8 (bt s (e + 1))) rfl rfl (fun _ _ => by kernel_rfl) (lbyteAt_n s (e + 1) _) rfl ?_
   intro w11 hq
   replace M := M.trans hq
   clear hq
   refine wl_m (.tmp 26) (.int .u8 (bt s (e + 1))) ?_
   refine w_nil (xn_then (w_seq ?_))
   cases hf0 : ltr (bt s (e + 1)) with
   | true =>
    refine w_reg ?_
    refine wl_m (.tmp 8) (.int .u8 (bt s (e + 1))) ?_
    refine wl_call 37 [(.tmp 27)] _ [.int .u8 (bt s (e + 1))] (.bool true) rfl rfl (fun _ _ => by kernel_rfl) (ltr_c hf0 isLetter_n _) rfl ?_
    intro w12 hq
    replace M := M.trans hq
    clear hq
    refine wl_m (.tmp 28) (.bool true) ?_
    refine wl_skip rfl (wl_skip rfl ?_)
    refine wl_pick (.tmp 29) (.const (.bool true)) (.tmp 31) true (.bool true) (fun _ => rfl) rfl rfl rfl ?_
    refine w_nil (xn_then (w_condT rfl ?_))
    refine w_goto ?_
    refine xg_then ?_
    exact xg_jump (s.size + 5 - (e + 1)) (by omega) ⟨e + 1, e0, e1, rfl, rfl, ⟨ltr_in (by rw [hf0]; rfl), by rw [hr, nme_on (by rw [hf0]; rfl)]⟩, M⟩
   | false =>
    cases hf1 : dgt (bt s (e + 1)) with
    | true =>
     refine w_reg ?_
     refine wl_m (.tmp 8) (.int .u8 (bt s (e + 1))) ?_
     refine wl_call 37 [(.tmp 27)] _ [.int .u8 (bt s (e + 1))] (.bool false) rfl rfl (fun _ _ => by kernel_rfl) (ltr_c hf0 isLetter_n _) rfl ?_
     intro w12 hq
     replace M := M.trans hq
     clear hq
     refine wl_m (.tmp 28) (.bool false) ?_
     refine wl_m (.tmp 8) (.int .u8 (bt s (e + 1))) ?_
     refine wl_call 38 [(.tmp 30)] _ [.int .u8 (bt s (e + 1))] (.bool true) rfl rfl (fun _ _ => by kernel_rfl) (dgt_c hf1 lisDigit_n _) rfl ?_
     intro w13 hq
     replace M := M.trans hq
     clear hq
     refine wl_pick (.tmp 29) (.const (.bool true)) (.tmp 31) false (.bool true) (fun _ => rfl) rfl rfl rfl ?_
     refine w_nil (xn_then (w_condT rfl ?_))
     refine w_goto ?_
     refine xg_then ?_
     exact xg_jump (s.size + 5 - (e + 1)) (by omega) ⟨e + 1, e0, e1, rfl, rfl, ⟨ltr_in (by rw [hf0, hf1]; rfl), by rw [hr, nme_on (by rw [hf0, hf1]; rfl)]⟩, M⟩
    | false =>
     refine w_reg ?_
     refine wl_m (.tmp 8) (.int .u8 (bt s (e + 1))) ?_
     refine wl_call 37 [(.tmp 27)] _ [.int .u8 (bt s (e + 1))] (.bool false) rfl rfl (fun _ _ => by kernel_rfl) (ltr_c hf0 isLetter_n _) rfl ?_
     intro w12 hq
     replace M := M.trans hq
     clear hq
     refine wl_m (.tmp 28) (.bool false) ?_
     refine wl_m (.tmp 8) (.int .u8 (bt s (e + 1))) ?_
     refine wl_call 38 [(.tmp 30)] _ [.int .u8 (bt s (e + 1))] (.bool false) rfl rfl (fun _ _ => by kernel_rfl) (dgt_c hf1 lisDigit_n _) rfl ?_
     intro w13 hq
     replace M := M.trans hq
     clear hq
     refine wl_pick (.tmp 29) (.const (.bool true)) (.tmp 31) false (.bool false) (fun _ => rfl) rfl rfl rfl ?_
     refine w_nil (xn_then (w_condF rfl (w_skip (xn_then (w_seq (w_seq (w_reg ?_)))))))
     refine wl_m (.tmp 6) (.int .i64 ((e + 1 : Nat) : Int)) ?_
     refine wl_m (.const (.int .i64 (1))) (.int .i64 (1)) ?_
     refine wl_m (.tmp 33) (.int .i64 ((e + 1 : Nat) : Int)) ?_
     refine w_nil (xn_then (w_ret (xr_then ?_)))
     refine xr_jumps ?_
     exact w_ret2 _ _ (.int .i64 (1)) (.int .i64 ((e + 1 : Nat) : Int)) rfl rfl rfl ⟨by rw [hr, nme_end (by rw [hf0, hf1]; rfl)] <;> rfl, M⟩
  | 1, hp =>
   replace hp : rch s k = (2, k + pfx (s.extract k s.size)) := hp
   have hpl := pfx_le (s.extract k s.size)
   rw [ByteArray.size_extract, Nat.min_self] at hpl
   refine w_seq (w_skip (xn_then (w_seq (w_seq (w_reg ?_)))))
   refine wl_mv (.tmp 1) (.int .i64 ((k : Nat) : Int)) (fun _ => rfl) e1 rfl ?_
   refine wl_mv (.tmp 0) (.string s) (fun _ => rfl) e0 rfl ?_
   refine wl_mv (.tmp 1) (.int .i64 ((k : Nat) : Int)) (fun _ => rfl) e1 rfl ?_
   refine wl_val (.string (s.extract (k) s.size)) (lo2_run _ _ _ s (k) (by exact rfl) (by exact rfl) (by omega) _ _ _ _ _ _) rfl ?_
   refine wl_call 47 [(.tmp 37)] _ [.string (s.extract (k) s.size)] (.int .i64 ((pfx (s.extract (k) s.size) : Nat) : Int)) rfl rfl (fun _ _ => by kernel_rfl) (prefix_n (s.extract (k) s.size) _ (by rw [ByteArray.size_extract, Nat.min_self]; unfold maxLen; omega)) rfl ?_
   intro w11 hq
   replace M := M.trans hq
   clear hq
   refine wl_b .add 3 (.tmp 34) (.tmp 38) (.int .i64 ((k : Nat) : Int)) (.int .i64 ((pfx (s.extract (k) s.size) : Nat) : Int)) (.int .i64 ((k + pfx (s.extract (k) s.size) : Nat) : Int)) (addk (a := k) (b := pfx (s.extract (k) s.size)) rfl (by omega) _ _ _) ?_
   refine wl_m (.const (.int .i64 (2))) (.int .i64 (2)) ?_
   refine wl_m (.tmp 39) (.int .i64 ((k + pfx (s.extract (k) s.size) : Nat) : Int)) ?_
   refine w_nil (xn_then (w_ret (xr_then ?_)))
   refine xr_jumps ?_
   exact w_ret2 _ _ (.int .i64 (2)) (.int .i64 ((k + pfx (s.extract (k) s.size) : Nat) : Int)) rfl rfl rfl ⟨by rw [hp] <;> rfl, M⟩
  | 2, hp =>
   obtain ⟨he, hr⟩ := hp
   refine w_seq (w_skip (xn_then (w_seq (w_reg ?_))))
   refine wl_mv (.tmp 6) (.int .i64 ((e : Nat) : Int)) (fun _ => rfl) e6 rfl ?_
   refine wl_b .add 3 (.tmp 40) (.const (.int .i64 (1))) (.int .i64 ((e : Nat) : Int)) (.int .i64 (1)) (.int .i64 ((e + 1 : Nat) : Int)) (addk (a := e) (b := 1) rfl (by omega) _ _ _) ?_
   refine wl_m (.tmp 41) (.int .i64 ((e + 1 : Nat) : Int)) ?_
   refine w_nil (xn_then (w_seq (w_block (w_seq ?_))))
   cases hf0 : decide (s.size ≤ e + 1) with
   | true =>
    have hf0p := of_decide_eq_true hf0
    refine w_reg ?_
    refine wl_m (.tmp 6) (.int .i64 ((e + 1 : Nat) : Int)) ?_
    refine wl_mv (.tmp 0) (.string s) (fun _ => rfl) e0 rfl ?_
    refine wl_val (.int .i64 ((s.size : Nat) : Int)) (len_s _ _ s (by exact rfl) _ _ _ _ _ _) rfl ?_
    refine wl_b .geq 3 (.tmp 43) (.tmp 45) (.int .i64 ((e + 1 : Nat) : Int)) (.int .i64 ((s.size : Nat) : Int)) (.bool true) (geN hf0 _ _ _) ?_
    refine wl_m (.tmp 46) (.bool true) ?_
    refine w_nil (xn_then (w_condT rfl (w_seq (w_reg ?_))))
    refine wl_mv (.tmp 1) (.int .i64 ((k : Nat) : Int)) (fun _ => rfl) e1 rfl ?_
    refine wl_m (.const (.int .i64 (3))) (.int .i64 (3)) ?_
    refine wl_m (.tmp 47) (.int .i64 ((k : Nat) : Int)) ?_
    refine w_nil (xn_then (w_ret (xr_blk (xr_then ?_))))
    refine xr_jumps ?_
    exact w_ret2 _ _ (.int .i64 (3)) (.int .i64 ((k : Nat) : Int)) rfl rfl rfl ⟨by rw [hr, qte, dif_neg (by omega)] <;> rfl, M⟩
   | false =>
    have hf0p := of_decide_eq_false hf0
    refine w_reg ?_
    refine wl_m (.tmp 6) (.int .i64 ((e + 1 : Nat) : Int)) ?_
    refine wl_mv (.tmp 0) (.string s) (fun _ => rfl) e0 rfl ?_
    refine wl_val (.int .i64 ((s.size : Nat) : Int)) (len_s _ _ s (by exact rfl) _ _ _ _ _ _) rfl ?_
    refine wl_b .geq 3 (.tmp 43) (.tmp 45) (.int .i64 ((e + 1 : Nat) : Int)) (.int .i64 ((s.size : Nat) : Int)) (.bool false) (geN hf0 _ _ _) ?_
    refine wl_m (.tmp 46) (.bool false) ?_
    refine w_nil (xn_then (w_condF rfl (w_seq ?_)))
    cases hf1 : (bt s (e + 1) == 92) with
    | true =>
     refine w_reg ?_
     refine wl_mv (.tmp 0) (.string s) (fun _ => rfl) e0 rfl ?_
     refine wl_m (.tmp 6) (.int .i64 ((e + 1 : Nat) : Int)) ?_
     refine wl_bin (fun x y => Instr.index 9 x y) (.tmp 49) (.tmp 50) (.string s) (.int .i64 ((e + 1 : Nat) : Int)) (.int .u8 (bt s (e + 1))) (fun _ => rfl) rfl rfl (idx_b (k := e + 1) (by omega) _) rfl ?_
     refine wl_b .eql 5 (.tmp 51) (.const (.int .u8 (92))) (.int .u8 (bt s (e + 1))) (.int .u8 (92)) (.bool true) (eq5r hf1 _ _ _) ?_
     refine wl_m (.tmp 52) (.bool true) ?_
     refine w_nil (xn_then (w_condT rfl (w_seq (w_reg ?_))))
     refine wl_m (.tmp 6) (.int .i64 ((e + 1 : Nat) : Int)) ?_
     refine wl_b .add 3 (.tmp 53) (.const (.int .i64 (1))) (.int .i64 ((e + 1 : Nat) : Int)) (.int .i64 (1)) (.int .i64 ((e + 1 + 1 : Nat) : Int)) (addk (a := e + 1) (b := 1) rfl (by omega) _ _ _) ?_
     refine wl_m (.tmp 54) (.int .i64 ((e + 1 + 1 : Nat) : Int)) ?_
     refine w_nil (xn_then ?_)
     refine w_goto ?_
     refine xg_blk ?_
     refine xg_then ?_
     exact xg_jump (s.size + 5 - (e + 1 + 1)) (by omega) ⟨e + 1 + 1, e0, e1, rfl, rfl, ⟨by omega, by rw [hr, show qte s k e = qte s k (e + 1 + 1) from (by rw [qte, dif_pos (by omega), if_pos hf1])]⟩, M⟩
    | false =>
     refine w_reg ?_
     refine wl_mv (.tmp 0) (.string s) (fun _ => rfl) e0 rfl ?_
     refine wl_m (.tmp 6) (.int .i64 ((e + 1 : Nat) : Int)) ?_
     refine wl_bin (fun x y => Instr.index 9 x y) (.tmp 49) (.tmp 50) (.string s) (.int .i64 ((e + 1 : Nat) : Int)) (.int .u8 (bt s (e + 1))) (fun _ => rfl) rfl rfl (idx_b (k := e + 1) (by omega) _) rfl ?_
     refine wl_b .eql 5 (.tmp 51) (.const (.int .u8 (92))) (.int .u8 (bt s (e + 1))) (.int .u8 (92)) (.bool false) (eq5r hf1 _ _ _) ?_
     refine wl_m (.tmp 52) (.bool false) ?_
     refine w_nil (xn_then (w_condF rfl (w_seq ?_)))
     cases hf2 : (bt s (e + 1) == 34) with
     | true =>
      refine w_reg ?_
      refine wl_mv (.tmp 0) (.string s) (fun _ => rfl) e0 rfl ?_
      refine wl_m (.tmp 6) (.int .i64 ((e + 1 : Nat) : Int)) ?_
      refine wl_bin (fun x y => Instr.index 9 x y) (.tmp 56) (.tmp 57) (.string s) (.int .i64 ((e + 1 : Nat) : Int)) (.int .u8 (bt s (e + 1))) (fun _ => rfl) rfl rfl (idx_b (k := e + 1) (by omega) _) rfl ?_
      refine wl_b .neq 5 (.tmp 58) (.const (.int .u8 (34))) (.int .u8 (bt s (e + 1))) (.int .u8 (34)) (.bool false) (ne5r hf2 _ _ _) ?_
      refine wl_m (.tmp 59) (.bool false) ?_
      refine w_nil (xn_then (w_condF rfl (w_skip (xn_blk (xn_then (w_seq (w_seq (w_reg ?_))))))))
      refine wl_m (.tmp 6) (.int .i64 ((e + 1 : Nat) : Int)) ?_
      refine wl_b .add 3 (.tmp 60) (.const (.int .i64 (1))) (.int .i64 ((e + 1 : Nat) : Int)) (.int .i64 (1)) (.int .i64 ((e + 1 + 1 : Nat) : Int)) (addk (a := e + 1) (b := 1) rfl (by omega) _ _ _) ?_
      refine wl_m (.const (.int .i64 (3))) (.int .i64 (3)) ?_
      refine wl_m (.tmp 61) (.int .i64 ((e + 1 + 1 : Nat) : Int)) ?_
      refine w_nil (xn_then (w_ret (xr_then ?_)))
      refine xr_jumps ?_
      exact w_ret2 _ _ (.int .i64 (3)) (.int .i64 ((e + 1 + 1 : Nat) : Int)) rfl rfl rfl ⟨by rw [hr, show qte s k e = e + 2 from (by rw [qte, dif_pos (by omega), if_neg (by rw [hf1]; simp), if_pos hf2])] <;> rfl, M⟩
     | false =>
      refine w_reg ?_
      refine wl_mv (.tmp 0) (.string s) (fun _ => rfl) e0 rfl ?_
      refine wl_m (.tmp 6) (.int .i64 ((e + 1 : Nat) : Int)) ?_
      refine wl_bin (fun x y => Instr.index 9 x y) (.tmp 56) (.tmp 57) (.string s) (.int .i64 ((e + 1 : Nat) : Int)) (.int .u8 (bt s (e + 1))) (fun _ => rfl) rfl rfl (idx_b (k := e + 1) (by omega) _) rfl ?_
      refine wl_b .neq 5 (.tmp 58) (.const (.int .u8 (34))) (.int .u8 (bt s (e + 1))) (.int .u8 (34)) (.bool true) (ne5r hf2 _ _ _) ?_
      refine wl_m (.tmp 59) (.bool true) ?_
      refine w_nil (xn_then (w_condT rfl ?_))
      refine w_goto ?_
      refine xg_blk ?_
      refine xg_then ?_
      exact xg_jump (s.size + 5 - (e + 1)) (by omega) ⟨e + 1, e0, e1, rfl, rfl, ⟨by omega, by rw [hr, show qte s k e = qte s k (e + 1) from (by rw [qte, dif_pos (by omega), if_neg (by rw [hf1]; simp), if_neg (by rw [hf2]; simp)])]⟩, M⟩
  | 3, hp =>
   replace hp : rch s k = (4, if k + 2 ≤ s.size ∧ symb (s.extract k (k + 2)) = true then k + 2 else k + 1) := hp
   refine w_seq (w_skip (xn_then (w_seq (w_seq ?_))))
   cases hf0 : decide (k + 2 ≤ s.size) with
   | true =>
    have hf0p := of_decide_eq_true hf0
    cases hf1 : symb (s.extract (k) (k + 2)) with
    | true =>
     refine w_reg ?_
     refine wl_mv (.tmp 1) (.int .i64 ((k : Nat) : Int)) (fun _ => rfl) e1 rfl ?_
     refine wl_b .add 3 (.tmp 62) (.const (.int .i64 (2))) (.int .i64 ((k : Nat) : Int)) (.int .i64 (2)) (.int .i64 ((k + 2 : Nat) : Int)) (addk (a := k) (b := 2) rfl (by omega) _ _ _) ?_
     refine wl_mv (.tmp 0) (.string s) (fun _ => rfl) e0 rfl ?_
     refine wl_val (.int .i64 ((s.size : Nat) : Int)) (len_s _ _ s (by exact rfl) _ _ _ _ _ _) rfl ?_
     refine wl_b .leq 3 (.tmp 63) (.tmp 65) (.int .i64 ((k + 2 : Nat) : Int)) (.int .i64 ((s.size : Nat) : Int)) (.bool true) (leN hf0 _ _ _) ?_
     refine wl_m (.tmp 66) (.bool true) ?_
     refine wl_mv (.tmp 0) (.string s) (fun _ => rfl) e0 rfl ?_
     refine wl_mv (.tmp 1) (.int .i64 ((k : Nat) : Int)) (fun _ => rfl) e1 rfl ?_
     refine wl_mv (.tmp 1) (.int .i64 ((k : Nat) : Int)) (fun _ => rfl) e1 rfl ?_
     refine wl_b .add 3 (.tmp 70) (.const (.int .i64 (2))) (.int .i64 ((k : Nat) : Int)) (.int .i64 (2)) (.int .i64 ((k + 2 : Nat) : Int)) (addk (a := k) (b := 2) rfl (by omega) _ _ _) ?_
     refine wl_val (.string (s.extract (k) (k + 2))) (mid_run _ _ _ _ s (k) (k + 2) (by exact rfl) (by exact rfl) (by exact rfl) (by omega) (by omega) _ _ _ _ _ _) rfl ?_
     refine wl_call 18 [(.tmp 72)] _ [.string (s.extract (k) (k + 2))] (.bool true) rfl rfl (fun _ _ => by kernel_rfl) (sym_c hf1 _) rfl ?_
     intro w11 hq
     replace M := M.trans hq
     clear hq
     refine wl_pick (.tmp 67) (.tmp 73) (.const (.bool false)) true (.bool true) (fun _ => rfl) rfl rfl rfl ?_
     refine w_nil (xn_then (w_condT rfl (w_seq (w_reg ?_))))
     refine wl_mv (.tmp 1) (.int .i64 ((k : Nat) : Int)) (fun _ => rfl) e1 rfl ?_
     refine wl_b .add 3 (.tmp 75) (.const (.int .i64 (2))) (.int .i64 ((k : Nat) : Int)) (.int .i64 (2)) (.int .i64 ((k + 2 : Nat) : Int)) (addk (a := k) (b := 2) rfl (by omega) _ _ _) ?_
     refine wl_m (.const (.int .i64 (4))) (.int .i64 (4)) ?_
     refine wl_m (.tmp 76) (.int .i64 ((k + 2 : Nat) : Int)) ?_
     refine w_nil (xn_then (w_ret (xr_then ?_)))
     refine xr_jumps ?_
     exact w_ret2 _ _ (.int .i64 (4)) (.int .i64 ((k + 2 : Nat) : Int)) rfl rfl rfl ⟨by rw [hp, if_pos ⟨hf0p, hf1⟩] <;> rfl, M⟩
    | false =>
     refine w_reg ?_
     refine wl_mv (.tmp 1) (.int .i64 ((k : Nat) : Int)) (fun _ => rfl) e1 rfl ?_
     refine wl_b .add 3 (.tmp 62) (.const (.int .i64 (2))) (.int .i64 ((k : Nat) : Int)) (.int .i64 (2)) (.int .i64 ((k + 2 : Nat) : Int)) (addk (a := k) (b := 2) rfl (by omega) _ _ _) ?_
     refine wl_mv (.tmp 0) (.string s) (fun _ => rfl) e0 rfl ?_
     refine wl_val (.int .i64 ((s.size : Nat) : Int)) (len_s _ _ s (by exact rfl) _ _ _ _ _ _) rfl ?_
     refine wl_b .leq 3 (.tmp 63) (.tmp 65) (.int .i64 ((k + 2 : Nat) : Int)) (.int .i64 ((s.size : Nat) : Int)) (.bool true) (leN hf0 _ _ _) ?_
     refine wl_m (.tmp 66) (.bool true) ?_
     refine wl_mv (.tmp 0) (.string s) (fun _ => rfl) e0 rfl ?_
     refine wl_mv (.tmp 1) (.int .i64 ((k : Nat) : Int)) (fun _ => rfl) e1 rfl ?_
     refine wl_mv (.tmp 1) (.int .i64 ((k : Nat) : Int)) (fun _ => rfl) e1 rfl ?_
     refine wl_b .add 3 (.tmp 70) (.const (.int .i64 (2))) (.int .i64 ((k : Nat) : Int)) (.int .i64 (2)) (.int .i64 ((k + 2 : Nat) : Int)) (addk (a := k) (b := 2) rfl (by omega) _ _ _) ?_
     refine wl_val (.string (s.extract (k) (k + 2))) (mid_run _ _ _ _ s (k) (k + 2) (by exact rfl) (by exact rfl) (by exact rfl) (by omega) (by omega) _ _ _ _ _ _) rfl ?_
     refine wl_call 18 [(.tmp 72)] _ [.string (s.extract (k) (k + 2))] (.bool false) rfl rfl (fun _ _ => by kernel_rfl) (sym_c hf1 _) rfl ?_
     intro w11 hq
     replace M := M.trans hq
     clear hq
     refine wl_pick (.tmp 67) (.tmp 73) (.const (.bool false)) true (.bool false) (fun _ => rfl) rfl rfl rfl ?_
     refine w_nil (xn_then (w_condF rfl (w_skip (xn_then (w_seq (w_reg ?_))))))
     refine wl_mv (.tmp 1) (.int .i64 ((k : Nat) : Int)) (fun _ => rfl) e1 rfl ?_
     refine wl_b .add 3 (.tmp 77) (.const (.int .i64 (1))) (.int .i64 ((k : Nat) : Int)) (.int .i64 (1)) (.int .i64 ((k + 1 : Nat) : Int)) (addk (a := k) (b := 1) rfl (by omega) _ _ _) ?_
     refine wl_m (.const (.int .i64 (4))) (.int .i64 (4)) ?_
     refine wl_m (.tmp 78) (.int .i64 ((k + 1 : Nat) : Int)) ?_
     refine w_nil (xn_then (w_ret ?_))
     refine xr_jumps ?_
     exact w_ret2 _ _ (.int .i64 (4)) (.int .i64 ((k + 1 : Nat) : Int)) rfl rfl rfl ⟨by rw [hp, if_neg (fun e => by rw [hf1] at e; cases e.2)] <;> rfl, M⟩
   | false =>
    have hf0p := of_decide_eq_false hf0
    refine w_reg ?_
    refine wl_mv (.tmp 1) (.int .i64 ((k : Nat) : Int)) (fun _ => rfl) e1 rfl ?_
    refine wl_b .add 3 (.tmp 62) (.const (.int .i64 (2))) (.int .i64 ((k : Nat) : Int)) (.int .i64 (2)) (.int .i64 ((k + 2 : Nat) : Int)) (addk (a := k) (b := 2) rfl (by omega) _ _ _) ?_
    refine wl_mv (.tmp 0) (.string s) (fun _ => rfl) e0 rfl ?_
    refine wl_val (.int .i64 ((s.size : Nat) : Int)) (len_s _ _ s (by exact rfl) _ _ _ _ _ _) rfl ?_
    refine wl_b .leq 3 (.tmp 63) (.tmp 65) (.int .i64 ((k + 2 : Nat) : Int)) (.int .i64 ((s.size : Nat) : Int)) (.bool false) (leN hf0 _ _ _) ?_
    refine wl_m (.tmp 66) (.bool false) ?_
    refine wl_skip rfl (wl_skip rfl (wl_skip rfl (wl_skip rfl (wl_skip rfl (wl_skip rfl ?_)))))
    refine wl_pick (.tmp 67) (.tmp 73) (.const (.bool false)) false (.bool false) (fun _ => rfl) rfl rfl rfl ?_
    refine w_nil (xn_then (w_condF rfl (w_skip (xn_then (w_seq (w_reg ?_))))))
    refine wl_mv (.tmp 1) (.int .i64 ((k : Nat) : Int)) (fun _ => rfl) e1 rfl ?_
    refine wl_b .add 3 (.tmp 77) (.const (.int .i64 (1))) (.int .i64 ((k : Nat) : Int)) (.int .i64 (1)) (.int .i64 ((k + 1 : Nat) : Int)) (addk (a := k) (b := 1) rfl (by omega) _ _ _) ?_
    refine wl_m (.const (.int .i64 (4))) (.int .i64 (4)) ?_
    refine wl_m (.tmp 78) (.int .i64 ((k + 1 : Nat) : Int)) ?_
    refine w_nil (xn_then (w_ret ?_))
    refine xr_jumps ?_
    exact w_ret2 _ _ (.int .i64 (4)) (.int .i64 ((k + 1 : Nat) : Int)) rfl rfl rfl ⟨by rw [hp, if_neg (fun e => hf0p e.1)] <;> rfl, M⟩
end Go.Proofs.YthgknegocfhdbaaDoor
