/-
  A part of the proof.
-/
import Derived.Test.YthgknegocfhdbaaDoorC5
import Derived.Test.YthgknegocfhdbaaDoorC9
/-
 exciseref03.Prefix: the longest beginning that is a decimal text.
-/
namespace Go.Proofs.YthgknegocfhdbaaDoor
open Go.RowKit
def gx (s : ByteArray) (p i best : Nat) (o q : Bool) : Nat :=
 if _h : i < s.size then
  if (bt s i == 46) && !q && decide (p < i) then gx s p (i + 1) best o true
  else if !dgt (bt s i) || (!q && decide (p < i) && (bt s p == 48)) then best
  else gx s p (i + 1) (if (o || !(bt s i == 48)) || decide (p = 0) then i + 1 else best) (o || !(bt s i == 48)) q
 else best
termination_by s.size - i
theorem gx_out {s : ByteArray} {p i best : Nat} {o q : Bool} (h : ¬ i < s.size) : gx s p i best o q = best := by rw [gx, dif_neg h]
theorem gx_in {s : ByteArray} {p i best : Nat} {o q : Bool} (h : i < s.size) : gx s p i best o q = if (bt s i == 46) && !q && decide (p < i) then gx s p (i + 1) best o true
  else if !dgt (bt s i) || (!q && decide (p < i) && (bt s p == 48)) then best
  else gx s p (i + 1) (if (o || !(bt s i == 48)) || decide (p = 0) then i + 1 else best) (o || !(bt s i == 48)) q := by rw [gx, dif_pos h]
theorem gx_a (s : ByteArray) (p i best : Nat) (o : Bool) : gx s p i best o true = if dgt (bt s i) then (if o || !az s i || decide (p = 0) then re s i else best) else best := by
 by_cases h : i < s.size
 ·rw [gx_in h]
  by_cases hd : dgt (bt s i) = true
  ·simp only [Bool.not_true, Bool.and_false, Bool.false_and, Bool.false_eq_true, if_false, hd, Bool.or_self, if_true]
   rw [gx_a s p (i + 1), re_on hd, az_on hd]
   by_cases hd2 : dgt (bt s (i + 1)) = true
   ·rw [if_pos hd2]
    cases o <;> cases (bt s i == 48) <;> cases az s (i + 1) <;> cases decide (p = 0) <;> rfl
   ·have hd2' : dgt (bt s (i + 1)) = false := by simpa using hd2
    rw [if_neg hd2, re_end hd2', az_end hd2', Bool.and_true]
  ·have hd' : dgt (bt s i) = false := by simpa using hd
   rw [hd']; simp
 ·have hd : dgt (bt s i) = false := by rw [bt_out h]; rfl
  rw [gx_out h, hd]; rfl
termination_by s.size - i
theorem gx_b (s : ByteArray) (p i : Nat) (hp : (bt s p == 48) = false) (hi : p < i) : gx s p i i true false = ah s (re s i) false 0 := by
 by_cases h : i < s.size
 ·rw [gx_in h]
  by_cases h46 : bt s i = 46
  ·have hd : dgt (bt s i) = false := by rw [h46]; rfl
   rw [re_end hd, gx_a]
   unfold ah
   rw [h46, decide_eq_true hi]
   simp
  ·have e46 : (bt s i == 46) = false := beq_eq_false_iff_ne.2 h46
   rw [e46, hp]
   by_cases hd : dgt (bt s i) = true
   ·rw [hd]
    simp only [Bool.false_and, Bool.false_eq_true, if_false, Bool.not_true, Bool.and_false, Bool.or_self, Bool.true_or, if_true]
    rw [gx_b s p (i + 1) hp (by omega), re_on hd]
   ·have hd' : dgt (bt s i) = false := by simpa using hd
    rw [hd', re_end hd']
    unfold ah
    rw [e46]
    simp
 ·have hd : dgt (bt s i) = false := by rw [bt_out h]; rfl
  rw [gx_out h, re_end hd]
  unfold ah
  rw [bt_out h]
  simp
termination_by s.size - i
theorem gx_fi (s : ByteArray) (p : Nat) (b : Bool) (hb : b = !decide (p = 0)) : gx s p p 0 false false = fi s p b := by
 unfold fi
 by_cases h : p < s.size
 ·rw [gx_in h]
  simp only [Nat.lt_irrefl, decide_false, Bool.and_false, Bool.false_eq_true, if_false, Bool.false_and, Bool.or_false, Bool.false_or]
  by_cases h48 : bt s p = 48
  ·have hd : dgt (bt s p) = true := by rw [h48]; rfl
   rw [h48]
   simp only [beq_self_eq_true, if_true, Bool.not_true, Bool.false_or, dgt48, Bool.false_eq_true, if_false]
   unfold ah
   by_cases h1 : p + 1 < s.size
   ·rw [gx_in h1]
    by_cases h46 : bt s (p + 1) = 46
    ·rw [h46]
     simp only [beq_self_eq_true, Bool.not_false, Bool.and_self, Nat.lt_succ_self, decide_true, if_true, Bool.true_and]
     rw [gx_a]
     subst hb
     by_cases hp0 : p = 0 <;> cases dgt (bt s (p + 1 + 1)) <;> cases az s (p + 1 + 1) <;> simp [hp0]
    ·have e46 : (bt s (p + 1) == 46) = false := beq_eq_false_iff_ne.2 h46
     rw [e46, h48]
     subst hb
     by_cases hp0 : p = 0 <;> simp [hp0]
   ·rw [gx_out h1, bt_out h1]
    subst hb
    by_cases hp0 : p = 0 <;> simp [hp0]
  ·have e48 : (bt s p == 48) = false := beq_eq_false_iff_ne.2 h48
   rw [e48]
   by_cases hd : dgt (bt s p) = true
   ·rw [hd]
    simp only [Bool.not_true, Bool.false_eq_true, if_false, Bool.not_false, Bool.true_or, if_true]
    rw [gx_b s p (p + 1) e48 (by omega), re_on hd]
   ·have hd' : dgt (bt s p) = false := by simpa using hd
    rw [hd']; simp
 ·rw [gx_out h, bt_out h]
  simp [dgt]
theorem rprefix_n (s : ByteArray) (w : World) (hs : s.size ≤ maxLen) : Calls Tryd.prog 32 #[.string s] w fun e w' => e = .returned (.int .i64 (pfx s : Int)) ∧ Mo w w' := by
 replace hs : s.size ≤ 9223372036854775807 := by unfold maxLen at hs; exact hs
 refine w_enter 76 Tryd.func32 Tryd.ntmps32 rfl rfl ?_
 have M : Mo w w := Mo.refl _
 refine w_seq (w_reg ?_)
 refine wl_m (.const (.int .i64 (0))) (.int .i64 (0)) ?_
 refine w_nil (xn_then (w_seq (w_reg ?_)))
 refine wl_m (.const (.int .i64 (0))) (.int .i64 (0)) ?_
 refine wl_m (.const (.int .i64 (0))) (.int .i64 (0)) ?_
 refine w_nil (xn_then ?_)
 refine w_cut (fun l w1 => ∃ (p : Nat) (b : Bool), look l 0 = .string s ∧ look l 3 = .int .i64 ((0 : Nat) : Int) ∧ look l 4 = .int .i64 (p : Int) ∧ p ≤ s.size ∧ b = (!decide (p = 0)) ∧ pfx s = fi s p b ∧ Mo w w1) ?_ ?_
 ·skip
  clear M
  rintro l wa ⟨p, b, e0, e3, e4, hps, hb, hw0, M⟩
  rw [← gx_fi s p b hb] at hw0
  refine w_seq (w_reg ?_)
  refine wl_m (.const (.bool false)) (.bool false) ?_
  refine wl_m (.const (.bool false)) (.bool false) ?_
  refine w_nil (xn_then (w_seq (w_reg ?_)))
  refine wl_mv (.tmp 4) (.int .i64 ((p : Nat) : Int)) (fun _ => rfl) e4 rfl ?_
  refine wl_m (.tmp 21) (.int .i64 ((p : Nat) : Int)) ?_
  refine w_nil (xn_then (w_seq (w_block ?_)))
  refine w_loop (fun m l w1 => ∃ (i best : Nat) (o q : Bool), m = s.size - i ∧ look l 0 = .string s ∧ look l 3 = .int .i64 (best : Int) ∧ look l 4 = .int .i64 (i : Int) ∧ look l 5 = .bool o ∧ look l 6 = .bool q ∧ look l 7 = .int .i64 (p : Int) ∧ p ≤ i ∧ i ≤ s.size ∧ pfx s = gx s p i best o q ∧ Mo w w1) _ ⟨p, 0, false, false, rfl, e0, e3, e4, rfl, rfl, rfl, Nat.le_refl _, hps, hw0, M⟩ ?_
  clear M
  rintro m l wl ⟨i, best, o, q, rfl, e0, e3, e4, e5, e6, e7, hpi, his, hR, M⟩
  refine w_seq (w_seq ?_)
  cases hf0 : decide (i < s.size) with
  | true =>
   have hf0p := of_decide_eq_true hf0
   refine w_reg ?_
   refine wl_mv (.tmp 4) (.int .i64 ((i : Nat) : Int)) (fun _ => rfl) e4 rfl ?_
   refine wl_mv (.tmp 0) (.string s) (fun _ => rfl) e0 rfl ?_
   refine wl_val (.int .i64 ((s.size : Nat) : Int)) (len_s _ _ s (by exact rfl) _ _ _ _ _ _) rfl ?_
   refine wl_b .lss 3 (.tmp 22) (.tmp 24) (.int .i64 ((i : Nat) : Int)) (.int .i64 ((s.size : Nat) : Int)) (.bool true) (ltN hf0 _ _ _) ?_
   refine w_nil (xn_then (w_condT rfl (w_skip (xn_then (w_seq (w_block (w_seq (w_reg ?_))))))))
   refine wl_mv (.tmp 0) (.string s) (fun _ => rfl) e0 rfl ?_
   refine wl_mv (.tmp 4) (.int .i64 ((i : Nat) : Int)) (fun _ => rfl) e4 rfl ?_
   refine wl_bin (fun x y => Instr.index 9 x y) (.tmp 28) (.tmp 29) (.string s) (.int .i64 ((i : Nat) : Int)) (.int .u8 (bt s (i))) (fun _ => rfl) rfl rfl (idx_b (by omega) _) rfl ?_
   refine wl_m (.tmp 30) (.int .u8 (bt s (i))) ?_
   refine w_nil (xn_then (w_seq (w_block (w_seq ?_))))
   cases hf1 : (bt s (i) == 46) with
   | true =>
    cases q with
    | true =>
     refine w_reg ?_
     refine wl_m (.tmp 8) (.int .u8 (bt s (i))) ?_
     refine wl_b .eql 5 (.tmp 32) (.const (.int .u8 (46))) (.int .u8 (bt s (i))) (.int .u8 (46)) (.bool true) (eq5r hf1 _ _ _) ?_
     refine wl_m (.tmp 33) (.bool true) ?_
     refine wl_mv (.tmp 6) (.bool true) (fun _ => rfl) e6 rfl ?_
     refine wl_un (fun v => Op.unary .not v) (.tmp 35) (.bool true) (.bool false) (fun _ => rfl) rfl (by kernel_rfl) rfl ?_
     refine wl_pick (.tmp 34) (.tmp 36) (.const (.bool false)) true (.bool false) (fun _ => rfl) rfl rfl rfl ?_
     refine wl_m (.tmp 37) (.bool false) ?_
     refine wl_skip rfl (wl_skip rfl (wl_skip rfl ?_))
     refine wl_pick (.tmp 38) (.tmp 41) (.const (.bool false)) false (.bool false) (fun _ => rfl) rfl rfl rfl ?_
     refine wl_m (.tmp 42) (.bool false) ?_
     refine w_nil (xn_then (w_condF rfl (w_seq ?_)))
     cases hf2 : dgt (bt s (i)) with
     | true =>
      refine w_reg ?_
      refine wl_m (.tmp 8) (.int .u8 (bt s (i))) ?_
      refine wl_call 49 [(.tmp 44)] _ [.int .u8 (bt s (i))] (.bool true) rfl rfl (fun _ _ => by kernel_rfl) (digit_c hf2 _) rfl ?_
      intro w21 hq
      replace M := M.trans hq
      clear hq
      refine wl_un (fun v => Op.unary .not v) (.tmp 45) (.bool true) (.bool false) (fun _ => rfl) rfl (by kernel_rfl) rfl ?_
      refine wl_m (.tmp 46) (.bool false) ?_
      refine wl_mv (.tmp 6) (.bool true) (fun _ => rfl) e6 rfl ?_
      refine wl_un (fun v => Op.unary .not v) (.tmp 48) (.bool true) (.bool false) (fun _ => rfl) rfl (by kernel_rfl) rfl ?_
      refine wl_m (.tmp 49) (.bool false) ?_
      refine wl_skip rfl (wl_skip rfl (wl_skip rfl ?_))
      refine wl_pick (.tmp 50) (.tmp 53) (.const (.bool false)) false (.bool false) (fun _ => rfl) rfl rfl rfl ?_
      refine wl_m (.tmp 54) (.bool false) ?_
      refine wl_skip rfl (wl_skip rfl (wl_skip rfl (wl_skip rfl ?_)))
      refine wl_pick (.tmp 55) (.tmp 59) (.const (.bool false)) false (.bool false) (fun _ => rfl) rfl rfl rfl ?_
      refine wl_pick (.tmp 47) (.const (.bool true)) (.tmp 60) false (.bool false) (fun _ => rfl) rfl rfl rfl ?_
      refine wl_m (.tmp 61) (.bool false) ?_
      refine w_nil (xn_then (w_condF rfl (w_skip (xn_blk (xn_then (w_seq ?_))))))
      cases o with
      | true =>
       refine w_reg ?_
       refine wl_mv (.tmp 5) (.bool true) (fun _ => rfl) e5 rfl ?_
       refine wl_m (.tmp 63) (.bool true) ?_
       refine wl_skip rfl (wl_skip rfl ?_)
       refine wl_pick (.tmp 64) (.const (.bool true)) (.tmp 66) true (.bool true) (fun _ => rfl) rfl rfl rfl ?_
       refine wl_m (.tmp 67) (.bool true) ?_
       refine w_nil (xn_then (w_seq (w_reg ?_)))
       refine wl_m (.tmp 5) (.bool true) ?_
       refine wl_m (.tmp 68) (.bool true) ?_
       refine wl_skip rfl (wl_skip rfl ?_)
       refine wl_pick (.tmp 69) (.const (.bool true)) (.tmp 71) true (.bool true) (fun _ => rfl) rfl rfl rfl ?_
       refine w_nil (xn_then (w_condT rfl (w_reg ?_)))
       refine wl_mv (.tmp 4) (.int .i64 ((i : Nat) : Int)) (fun _ => rfl) e4 rfl ?_
       refine wl_b .add 3 (.tmp 73) (.const (.int .i64 (1))) (.int .i64 ((i : Nat) : Int)) (.int .i64 (1)) (.int .i64 ((i + 1 : Nat) : Int)) (add1r (k := i) (by omega) _ _ _) ?_
       refine wl_m (.tmp 74) (.int .i64 ((i + 1 : Nat) : Int)) ?_
       refine w_nil (xn_blk (xn_then (w_reg ?_)))
       refine wl_mv (.tmp 4) (.int .i64 ((i : Nat) : Int)) (fun _ => rfl) e4 rfl ?_
       refine wl_b .add 3 (.tmp 26) (.const (.int .i64 (1))) (.int .i64 ((i : Nat) : Int)) (.int .i64 (1)) (.int .i64 ((i + 1 : Nat) : Int)) (add1r (k := i) (by omega) _ _ _) ?_
       refine wl_m (.tmp 27) (.int .i64 ((i + 1 : Nat) : Int)) ?_
       refine w_nil ?_
       exact xn_loop (s.size - (i + 1)) (by omega) ⟨i + 1, i + 1, true, true, rfl, e0, rfl, rfl, rfl, e6, e7, by omega, by omega, by rw [hR, gx_in (of_decide_eq_true hf0)]; simp [hf1, hf2], M⟩
      | false =>
       cases hf3 : (bt s (i) == 48) with
       | true =>
        refine w_reg ?_
        refine wl_mv (.tmp 5) (.bool false) (fun _ => rfl) e5 rfl ?_
        refine wl_m (.tmp 63) (.bool false) ?_
        refine wl_m (.tmp 8) (.int .u8 (bt s (i))) ?_
        refine wl_b .neq 5 (.tmp 65) (.const (.int .u8 (48))) (.int .u8 (bt s (i))) (.int .u8 (48)) (.bool false) (ne5r hf3 _ _ _) ?_
        refine wl_pick (.tmp 64) (.const (.bool true)) (.tmp 66) false (.bool false) (fun _ => rfl) rfl rfl rfl ?_
        refine wl_m (.tmp 67) (.bool false) ?_
        refine w_nil (xn_then (w_seq ?_))
        cases hf4 : decide (p = 0) with
        | true =>
         have hf4p := of_decide_eq_true hf4
         refine w_reg ?_
         refine wl_m (.tmp 5) (.bool false) ?_
         refine wl_m (.tmp 68) (.bool false) ?_
         refine wl_mv (.tmp 7) (.int .i64 ((p : Nat) : Int)) (fun _ => rfl) e7 rfl ?_
         refine wl_b .eql 3 (.tmp 70) (.const (.int .i64 (0))) (.int .i64 ((p : Nat) : Int)) (.int .i64 (0)) (.bool true) (eqN hf4 _ _ _) ?_
         refine wl_pick (.tmp 69) (.const (.bool true)) (.tmp 71) false (.bool true) (fun _ => rfl) rfl rfl rfl ?_
         refine w_nil (xn_then (w_condT rfl (w_reg ?_)))
         refine wl_mv (.tmp 4) (.int .i64 ((i : Nat) : Int)) (fun _ => rfl) e4 rfl ?_
         refine wl_b .add 3 (.tmp 73) (.const (.int .i64 (1))) (.int .i64 ((i : Nat) : Int)) (.int .i64 (1)) (.int .i64 ((i + 1 : Nat) : Int)) (add1r (k := i) (by omega) _ _ _) ?_
         refine wl_m (.tmp 74) (.int .i64 ((i + 1 : Nat) : Int)) ?_
         refine w_nil (xn_blk (xn_then (w_reg ?_)))
         refine wl_mv (.tmp 4) (.int .i64 ((i : Nat) : Int)) (fun _ => rfl) e4 rfl ?_
         refine wl_b .add 3 (.tmp 26) (.const (.int .i64 (1))) (.int .i64 ((i : Nat) : Int)) (.int .i64 (1)) (.int .i64 ((i + 1 : Nat) : Int)) (add1r (k := i) (by omega) _ _ _) ?_
         refine wl_m (.tmp 27) (.int .i64 ((i + 1 : Nat) : Int)) ?_
         refine w_nil ?_
         exact xn_loop (s.size - (i + 1)) (by omega) ⟨i + 1, i + 1, false, true, rfl, e0, rfl, rfl, rfl, e6, e7, by omega, by omega, by rw [hR, gx_in (of_decide_eq_true hf0)]; simp [hf1, hf2, hf3, hf4], M⟩
        | false =>
         have hf4p := of_decide_eq_false hf4
         refine w_reg ?_
         refine wl_m (.tmp 5) (.bool false) ?_
         refine wl_m (.tmp 68) (.bool false) ?_
         refine wl_mv (.tmp 7) (.int .i64 ((p : Nat) : Int)) (fun _ => rfl) e7 rfl ?_
         refine wl_b .eql 3 (.tmp 70) (.const (.int .i64 (0))) (.int .i64 ((p : Nat) : Int)) (.int .i64 (0)) (.bool false) (eqN hf4 _ _ _) ?_
         refine wl_pick (.tmp 69) (.const (.bool true)) (.tmp 71) false (.bool false) (fun _ => rfl) rfl rfl rfl ?_
         refine w_nil (xn_then (w_condF rfl (w_skip (xn_blk (xn_then (w_reg ?_))))))
         refine wl_mv (.tmp 4) (.int .i64 ((i : Nat) : Int)) (fun _ => rfl) e4 rfl ?_
         refine wl_b .add 3 (.tmp 26) (.const (.int .i64 (1))) (.int .i64 ((i : Nat) : Int)) (.int .i64 (1)) (.int .i64 ((i + 1 : Nat) : Int)) (add1r (k := i) (by omega) _ _ _) ?_
         refine wl_m (.tmp 27) (.int .i64 ((i + 1 : Nat) : Int)) ?_
         refine w_nil ?_
         exact xn_loop (s.size - (i + 1)) (by omega) ⟨i + 1, best, false, true, rfl, e0, e3, rfl, rfl, e6, e7, by omega, by omega, by rw [hR, gx_in (of_decide_eq_true hf0)]; simp [hf1, hf2, hf3, hf4], M⟩
       | false =>
        refine w_reg ?_
        refine wl_mv (.tmp 5) (.bool false) (fun _ => rfl) e5 rfl ?_
        refine wl_m (.tmp 63) (.bool false) ?_
        refine wl_m (.tmp 8) (.int .u8 (bt s (i))) ?_
        refine wl_b .neq 5 (.tmp 65) (.const (.int .u8 (48))) (.int .u8 (bt s (i))) (.int .u8 (48)) (.bool true) (ne5r hf3 _ _ _) ?_
        refine wl_pick (.tmp 64) (.const (.bool true)) (.tmp 66) false (.bool true) (fun _ => rfl) rfl rfl rfl ?_
        refine wl_m (.tmp 67) (.bool true) ?_
        refine w_nil (xn_then (w_seq (w_reg ?_)))
        refine wl_m (.tmp 5) (.bool true) ?_
        refine wl_m (.tmp 68) (.bool true) ?_
        refine wl_skip rfl (wl_skip rfl ?_)
        refine wl_pick (.tmp 69) (.const (.bool true)) (.tmp 71) true (.bool true) (fun _ => rfl) rfl rfl rfl ?_
        refine w_nil (xn_then (w_condT rfl (w_reg ?_)))
        refine wl_mv (.tmp 4) (.int .i64 ((i : Nat) : Int)) (fun _ => rfl) e4 rfl ?_
        refine wl_b .add 3 (.tmp 73) (.const (.int .i64 (1))) (.int .i64 ((i : Nat) : Int)) (.int .i64 (1)) (.int .i64 ((i + 1 : Nat) : Int)) (add1r (k := i) (by omega) _ _ _) ?_
        refine wl_m (.tmp 74) (.int .i64 ((i + 1 : Nat) : Int)) ?_
        refine w_nil (xn_blk (xn_then (w_reg ?_)))
        refine wl_mv (.tmp 4) (.int .i64 ((i : Nat) : Int)) (fun _ => rfl) e4 rfl ?_
        refine wl_b .add 3 (.tmp 26) (.const (.int .i64 (1))) (.int .i64 ((i : Nat) : Int)) (.int .i64 (1)) (.int .i64 ((i + 1 : Nat) : Int)) (add1r (k := i) (by omega) _ _ _) ?_
        refine wl_m (.tmp 27) (.int .i64 ((i + 1 : Nat) : Int)) ?_
        refine w_nil ?_
        exact xn_loop (s.size - (i + 1)) (by omega) ⟨i + 1, i + 1, true, true, rfl, e0, rfl, rfl, rfl, e6, e7, by omega, by omega, by rw [hR, gx_in (of_decide_eq_true hf0)]; simp [hf1, hf2, hf3], M⟩
     | false =>
      refine w_reg ?_
      refine wl_m (.tmp 8) (.int .u8 (bt s (i))) ?_
      refine wl_call 49 [(.tmp 44)] _ [.int .u8 (bt s (i))] (.bool false) rfl rfl (fun _ _ => by kernel_rfl) (digit_c hf2 _) rfl ?_
      intro w21 hq
      replace M := M.trans hq
      clear hq
      refine wl_un (fun v => Op.unary .not v) (.tmp 45) (.bool false) (.bool true) (fun _ => rfl) rfl (by kernel_rfl) rfl ?_
      refine wl_m (.tmp 46) (.bool true) ?_
      refine wl_skip rfl (wl_skip rfl (wl_skip rfl (wl_skip rfl (wl_skip rfl (wl_skip rfl (wl_skip rfl (wl_skip rfl (wl_skip rfl (wl_skip rfl (wl_skip rfl (wl_skip rfl (wl_skip rfl ?_))))))))))))
      refine wl_pick (.tmp 47) (.const (.bool true)) (.tmp 60) true (.bool true) (fun _ => rfl) rfl rfl rfl ?_
      refine wl_m (.tmp 61) (.bool true) ?_
      refine w_nil (xn_then (w_condT rfl (w_seq (w_reg ?_))))
      refine wl_mv (.tmp 3) (.int .i64 ((best : Nat) : Int)) (fun _ => rfl) e3 rfl ?_
      refine wl_m (.tmp 62) (.int .i64 ((best : Nat) : Int)) ?_
      refine w_nil (xn_then (w_ret (xr_blk (xr_then (xr_blk (xr_then (xr_then (xr_blk (xr_then ?_)))))))))
      have hfin : pfx s = best := by rw [hR, gx_in (of_decide_eq_true hf0)]; simp [hf1, hf2]
      exact w_ret1 _ (.int .i64 ((best : Nat) : Int)) rfl rfl ⟨by rw [hfin], M⟩
    | false =>
     cases hf2 : decide (p < i) with
     | true =>
      have hf2p := of_decide_eq_true hf2
      refine w_reg ?_
      refine wl_m (.tmp 8) (.int .u8 (bt s (i))) ?_
      refine wl_b .eql 5 (.tmp 32) (.const (.int .u8 (46))) (.int .u8 (bt s (i))) (.int .u8 (46)) (.bool true) (eq5r hf1 _ _ _) ?_
      refine wl_m (.tmp 33) (.bool true) ?_
      refine wl_mv (.tmp 6) (.bool false) (fun _ => rfl) e6 rfl ?_
      refine wl_un (fun v => Op.unary .not v) (.tmp 35) (.bool false) (.bool true) (fun _ => rfl) rfl (by kernel_rfl) rfl ?_
      refine wl_pick (.tmp 34) (.tmp 36) (.const (.bool false)) true (.bool true) (fun _ => rfl) rfl rfl rfl ?_
      refine wl_m (.tmp 37) (.bool true) ?_
      refine wl_mv (.tmp 4) (.int .i64 ((i : Nat) : Int)) (fun _ => rfl) e4 rfl ?_
      refine wl_mv (.tmp 7) (.int .i64 ((p : Nat) : Int)) (fun _ => rfl) e7 rfl ?_
      refine wl_b .gtr 3 (.tmp 39) (.tmp 40) (.int .i64 ((i : Nat) : Int)) (.int .i64 ((p : Nat) : Int)) (.bool true) (gtN hf2 _ _ _) ?_
      refine wl_pick (.tmp 38) (.tmp 41) (.const (.bool false)) true (.bool true) (fun _ => rfl) rfl rfl rfl ?_
      refine wl_m (.tmp 42) (.bool true) ?_
      refine w_nil (xn_then (w_condT rfl (w_seq (w_reg ?_))))
      refine wl_m (.const (.bool true)) (.bool true) ?_
      refine w_nil (xn_then (w_exit (xx_out rfl (xx_then (xx_blk (xn_then (w_reg ?_)))))))
      refine wl_mv (.tmp 4) (.int .i64 ((i : Nat) : Int)) (fun _ => rfl) e4 rfl ?_
      refine wl_b .add 3 (.tmp 26) (.const (.int .i64 (1))) (.int .i64 ((i : Nat) : Int)) (.int .i64 (1)) (.int .i64 ((i + 1 : Nat) : Int)) (add1r (k := i) (by omega) _ _ _) ?_
      refine wl_m (.tmp 27) (.int .i64 ((i + 1 : Nat) : Int)) ?_
      refine w_nil ?_
      exact xn_loop (s.size - (i + 1)) (by omega) ⟨i + 1, best, o, true, rfl, e0, e3, rfl, e5, rfl, e7, by omega, by omega, by rw [hR, gx_in (of_decide_eq_true hf0)]; simp [hf1, hf2p], M⟩
     | false =>
      have hf2p := of_decide_eq_false hf2
      refine w_reg ?_
      refine wl_m (.tmp 8) (.int .u8 (bt s (i))) ?_
      refine wl_b .eql 5 (.tmp 32) (.const (.int .u8 (46))) (.int .u8 (bt s (i))) (.int .u8 (46)) (.bool true) (eq5r hf1 _ _ _) ?_
      refine wl_m (.tmp 33) (.bool true) ?_
      refine wl_mv (.tmp 6) (.bool false) (fun _ => rfl) e6 rfl ?_
      refine wl_un (fun v => Op.unary .not v) (.tmp 35) (.bool false) (.bool true) (fun _ => rfl) rfl (by kernel_rfl) rfl ?_
      refine wl_pick (.tmp 34) (.tmp 36) (.const (.bool false)) true (.bool true) (fun _ => rfl) rfl rfl rfl ?_
      refine wl_m (.tmp 37) (.bool true) ?_
      refine wl_mv (.tmp 4) (.int .i64 ((i : Nat) : Int)) (fun _ => rfl) e4 rfl ?_
      refine wl_mv (.tmp 7) (.int .i64 ((p : Nat) : Int)) (fun _ => rfl) e7 rfl ?_
      refine wl_b .gtr 3 (.tmp 39) (.tmp 40) (.int .i64 ((i : Nat) : Int)) (.int .i64 ((p : Nat) : Int)) (.bool false) (gtN hf2 _ _ _) ?_
      refine wl_pick (.tmp 38) (.tmp 41) (.const (.bool false)) true (.bool false) (fun _ => rfl) rfl rfl rfl ?_
      refine wl_m (.tmp 42) (.bool false) ?_
      refine w_nil (xn_then (w_condF rfl (w_seq ?_)))
      cases hf3 : dgt (bt s (i)) with
      | true =>
       refine w_reg ?_
       refine wl_m (.tmp 8) (.int .u8 (bt s (i))) ?_
       refine wl_call 49 [(.tmp 44)] _ [.int .u8 (bt s (i))] (.bool true) rfl rfl (fun _ _ => by kernel_rfl) (digit_c hf3 _) rfl ?_
       intro w21 hq
       replace M := M.trans hq
       clear hq
       refine wl_un (fun v => Op.unary .not v) (.tmp 45) (.bool true) (.bool false) (fun _ => rfl) rfl (by kernel_rfl) rfl ?_
       refine wl_m (.tmp 46) (.bool false) ?_
       refine wl_mv (.tmp 6) (.bool false) (fun _ => rfl) e6 rfl ?_
       refine wl_un (fun v => Op.unary .not v) (.tmp 48) (.bool false) (.bool true) (fun _ => rfl) rfl (by kernel_rfl) rfl ?_
       refine wl_m (.tmp 49) (.bool true) ?_
       refine wl_mv (.tmp 4) (.int .i64 ((i : Nat) : Int)) (fun _ => rfl) e4 rfl ?_
       refine wl_mv (.tmp 7) (.int .i64 ((p : Nat) : Int)) (fun _ => rfl) e7 rfl ?_
       refine wl_b .gtr 3 (.tmp 51) (.tmp 52) (.int .i64 ((i : Nat) : Int)) (.int .i64 ((p : Nat) : Int)) (.bool false) (gtN hf2 _ _ _) ?_
       refine wl_pick (.tmp 50) (.tmp 53) (.const (.bool false)) true (.bool false) (fun _ => rfl) rfl rfl rfl ?_
       refine wl_m (.tmp 54) (.bool false) ?_
       refine wl_skip rfl (wl_skip rfl (wl_skip rfl (wl_skip rfl ?_)))
       refine wl_pick (.tmp 55) (.tmp 59) (.const (.bool false)) false (.bool false) (fun _ => rfl) rfl rfl rfl ?_
       refine wl_pick (.tmp 47) (.const (.bool true)) (.tmp 60) false (.bool false) (fun _ => rfl) rfl rfl rfl ?_
       refine wl_m (.tmp 61) (.bool false) ?_
       refine w_nil (xn_then (w_condF rfl (w_skip (xn_blk (xn_then (w_seq ?_))))))
       cases o with
       | true =>
        refine w_reg ?_
        refine wl_mv (.tmp 5) (.bool true) (fun _ => rfl) e5 rfl ?_
        refine wl_m (.tmp 63) (.bool true) ?_
        refine wl_skip rfl (wl_skip rfl ?_)
        refine wl_pick (.tmp 64) (.const (.bool true)) (.tmp 66) true (.bool true) (fun _ => rfl) rfl rfl rfl ?_
        refine wl_m (.tmp 67) (.bool true) ?_
        refine w_nil (xn_then (w_seq (w_reg ?_)))
        refine wl_m (.tmp 5) (.bool true) ?_
        refine wl_m (.tmp 68) (.bool true) ?_
        refine wl_skip rfl (wl_skip rfl ?_)
        refine wl_pick (.tmp 69) (.const (.bool true)) (.tmp 71) true (.bool true) (fun _ => rfl) rfl rfl rfl ?_
        refine w_nil (xn_then (w_condT rfl (w_reg ?_)))
        refine wl_mv (.tmp 4) (.int .i64 ((i : Nat) : Int)) (fun _ => rfl) e4 rfl ?_
        refine wl_b .add 3 (.tmp 73) (.const (.int .i64 (1))) (.int .i64 ((i : Nat) : Int)) (.int .i64 (1)) (.int .i64 ((i + 1 : Nat) : Int)) (add1r (k := i) (by omega) _ _ _) ?_
        refine wl_m (.tmp 74) (.int .i64 ((i + 1 : Nat) : Int)) ?_
        refine w_nil (xn_blk (xn_then (w_reg ?_)))
        refine wl_mv (.tmp 4) (.int .i64 ((i : Nat) : Int)) (fun _ => rfl) e4 rfl ?_
        refine wl_b .add 3 (.tmp 26) (.const (.int .i64 (1))) (.int .i64 ((i : Nat) : Int)) (.int .i64 (1)) (.int .i64 ((i + 1 : Nat) : Int)) (add1r (k := i) (by omega) _ _ _) ?_
        refine wl_m (.tmp 27) (.int .i64 ((i + 1 : Nat) : Int)) ?_
        refine w_nil ?_
        exact xn_loop (s.size - (i + 1)) (by omega) ⟨i + 1, i + 1, true, false, rfl, e0, rfl, rfl, rfl, e6, e7, by omega, by omega, by rw [hR, gx_in (of_decide_eq_true hf0)]; simp [hf1, hf2p, hf3], M⟩
       | false =>
        cases hf4 : (bt s (i) == 48) with
        | true =>
         refine w_reg ?_
         refine wl_mv (.tmp 5) (.bool false) (fun _ => rfl) e5 rfl ?_
         refine wl_m (.tmp 63) (.bool false) ?_
         refine wl_m (.tmp 8) (.int .u8 (bt s (i))) ?_
         refine wl_b .neq 5 (.tmp 65) (.const (.int .u8 (48))) (.int .u8 (bt s (i))) (.int .u8 (48)) (.bool false) (ne5r hf4 _ _ _) ?_
         refine wl_pick (.tmp 64) (.const (.bool true)) (.tmp 66) false (.bool false) (fun _ => rfl) rfl rfl rfl ?_
         refine wl_m (.tmp 67) (.bool false) ?_
         refine w_nil (xn_then (w_seq ?_))
         cases hf5 : decide (p = 0) with
         | true =>
          have hf5p := of_decide_eq_true hf5
          refine w_reg ?_
          refine wl_m (.tmp 5) (.bool false) ?_
          refine wl_m (.tmp 68) (.bool false) ?_
          refine wl_mv (.tmp 7) (.int .i64 ((p : Nat) : Int)) (fun _ => rfl) e7 rfl ?_
          refine wl_b .eql 3 (.tmp 70) (.const (.int .i64 (0))) (.int .i64 ((p : Nat) : Int)) (.int .i64 (0)) (.bool true) (eqN hf5 _ _ _) ?_
          refine wl_pick (.tmp 69) (.const (.bool true)) (.tmp 71) false (.bool true) (fun _ => rfl) rfl rfl rfl ?_
          refine w_nil (xn_then (w_condT rfl (w_reg ?_)))
          refine wl_mv (.tmp 4) (.int .i64 ((i : Nat) : Int)) (fun _ => rfl) e4 rfl ?_
          refine wl_b .add 3 (.tmp 73) (.const (.int .i64 (1))) (.int .i64 ((i : Nat) : Int)) (.int .i64 (1)) (.int .i64 ((i + 1 : Nat) : Int)) (add1r (k := i) (by omega) _ _ _) ?_
          refine wl_m (.tmp 74) (.int .i64 ((i + 1 : Nat) : Int)) ?_
          refine w_nil (xn_blk (xn_then (w_reg ?_)))
          refine wl_mv (.tmp 4) (.int .i64 ((i : Nat) : Int)) (fun _ => rfl) e4 rfl ?_
          refine wl_b .add 3 (.tmp 26) (.const (.int .i64 (1))) (.int .i64 ((i : Nat) : Int)) (.int .i64 (1)) (.int .i64 ((i + 1 : Nat) : Int)) (add1r (k := i) (by omega) _ _ _) ?_
          refine wl_m (.tmp 27) (.int .i64 ((i + 1 : Nat) : Int)) ?_
          refine w_nil ?_
          exact xn_loop (s.size - (i + 1)) (by omega) ⟨i + 1, i + 1, false, false, rfl, e0, rfl, rfl, rfl, e6, e7, by omega, by omega, by rw [hR, gx_in (of_decide_eq_true hf0)]; simp [hf1, hf2p, hf3, hf4, hf5], M⟩
         | false =>
          have hf5p := of_decide_eq_false hf5
          refine w_reg ?_
          refine wl_m (.tmp 5) (.bool false) ?_
          refine wl_m (.tmp 68) (.bool false) ?_
          refine wl_mv (.tmp 7) (.int .i64 ((p : Nat) : Int)) (fun _ => rfl) e7 rfl ?_
          refine wl_b .eql 3 (.tmp 70) (.const (.int .i64 (0))) (.int .i64 ((p : Nat) : Int)) (.int .i64 (0)) (.bool false) (eqN hf5 _ _ _) ?_
          refine wl_pick (.tmp 69) (.const (.bool true)) (.tmp 71) false (.bool false) (fun _ => rfl) rfl rfl rfl ?_
          refine w_nil (xn_then (w_condF rfl (w_skip (xn_blk (xn_then (w_reg ?_))))))
          refine wl_mv (.tmp 4) (.int .i64 ((i : Nat) : Int)) (fun _ => rfl) e4 rfl ?_
          refine wl_b .add 3 (.tmp 26) (.const (.int .i64 (1))) (.int .i64 ((i : Nat) : Int)) (.int .i64 (1)) (.int .i64 ((i + 1 : Nat) : Int)) (add1r (k := i) (by omega) _ _ _) ?_
          refine wl_m (.tmp 27) (.int .i64 ((i + 1 : Nat) : Int)) ?_
          refine w_nil ?_
          exact xn_loop (s.size - (i + 1)) (by omega) ⟨i + 1, best, false, false, rfl, e0, e3, rfl, rfl, e6, e7, by omega, by omega, by rw [hR, gx_in (of_decide_eq_true hf0)]; simp [hf1, hf2p, hf3, hf4, hf5], M⟩
        | false =>
         refine w_reg ?_
         refine wl_mv (.tmp 5) (.bool false) (fun _ => rfl) e5 rfl ?_
         refine wl_m (.tmp 63) (.bool false) ?_
         refine wl_m (.tmp 8) (.int .u8 (bt s (i))) ?_
         refine wl_b .neq 5 (.tmp 65) (.const (.int .u8 (48))) (.int .u8 (bt s (i))) (.int .u8 (48)) (.bool true) (ne5r hf4 _ _ _) ?_
         refine wl_pick (.tmp 64) (.const (.bool true)) (.tmp 66) false (.bool true) (fun _ => rfl) rfl rfl rfl ?_
         refine wl_m (.tmp 67) (.bool true) ?_
         refine w_nil (xn_then (w_seq (w_reg ?_)))
         refine wl_m (.tmp 5) (.bool true) ?_
         refine wl_m (.tmp 68) (.bool true) ?_
         refine wl_skip rfl (wl_skip rfl ?_)
         refine wl_pick (.tmp 69) (.const (.bool true)) (.tmp 71) true (.bool true) (fun _ => rfl) rfl rfl rfl ?_
         refine w_nil (xn_then (w_condT rfl (w_reg ?_)))
         refine wl_mv (.tmp 4) (.int .i64 ((i : Nat) : Int)) (fun _ => rfl) e4 rfl ?_
         refine wl_b .add 3 (.tmp 73) (.const (.int .i64 (1))) (.int .i64 ((i : Nat) : Int)) (.int .i64 (1)) (.int .i64 ((i + 1 : Nat) : Int)) (add1r (k := i) (by omega) _ _ _) ?_
         refine wl_m (.tmp 74) (.int .i64 ((i + 1 : Nat) : Int)) ?_
         refine w_nil (xn_blk (xn_then (w_reg ?_)))
         refine wl_mv (.tmp 4) (.int .i64 ((i : Nat) : Int)) (fun _ => rfl) e4 rfl ?_
         refine wl_b .add 3 (.tmp 26) (.const (.int .i64 (1))) (.int .i64 ((i : Nat) : Int)) (.int .i64 (1)) (.int .i64 ((i + 1 : Nat) : Int)) (add1r (k := i) (by omega) _ _ _) ?_
         refine wl_m (.tmp 27) (.int .i64 ((i + 1 : Nat) : Int)) ?_
         refine w_nil ?_
         exact xn_loop (s.size - (i + 1)) (by omega) ⟨i + 1, i + 1, true, false, rfl, e0, rfl, rfl, rfl, e6, e7, by omega, by omega, by rw [hR, gx_in (of_decide_eq_true hf0)]; simp [hf1, hf2p, hf3, hf4], M⟩
      | false =>
       refine w_reg ?_
       refine wl_m (.tmp 8) (.int .u8 (bt s (i))) ?_
       refine wl_call 49 [(.tmp 44)] _ [.int .u8 (bt s (i))] (.bool false) rfl rfl (fun _ _ => by kernel_rfl) (digit_c hf3 _) rfl ?_
       intro w21 hq
       replace M := M.trans hq
       clear hq
       refine wl_un (fun v => Op.unary .not v) (.tmp 45) (.bool false) (.bool true) (fun _ => rfl) rfl (by kernel_rfl) rfl ?_
       refine wl_m (.tmp 46) (.bool true) ?_
       refine wl_skip rfl (wl_skip rfl (wl_skip rfl (wl_skip rfl (wl_skip rfl (wl_skip rfl (wl_skip rfl (wl_skip rfl (wl_skip rfl (wl_skip rfl (wl_skip rfl (wl_skip rfl (wl_skip rfl ?_))))))))))))
       refine wl_pick (.tmp 47) (.const (.bool true)) (.tmp 60) true (.bool true) (fun _ => rfl) rfl rfl rfl ?_
       refine wl_m (.tmp 61) (.bool true) ?_
       refine w_nil (xn_then (w_condT rfl (w_seq (w_reg ?_))))
       refine wl_mv (.tmp 3) (.int .i64 ((best : Nat) : Int)) (fun _ => rfl) e3 rfl ?_
       refine wl_m (.tmp 62) (.int .i64 ((best : Nat) : Int)) ?_
       refine w_nil (xn_then (w_ret (xr_blk (xr_then (xr_blk (xr_then (xr_then (xr_blk (xr_then ?_)))))))))
       have hfin : pfx s = best := by rw [hR, gx_in (of_decide_eq_true hf0)]; simp [hf1, hf2p, hf3]
       exact w_ret1 _ (.int .i64 ((best : Nat) : Int)) rfl rfl ⟨by rw [hfin], M⟩
   | false =>
    refine w_reg ?_
    refine wl_m (.tmp 8) (.int .u8 (bt s (i))) ?_
    refine wl_b .eql 5 (.tmp 32) (.const (.int .u8 (46))) (.int .u8 (bt s (i))) (.int .u8 (46)) (.bool false) (eq5r hf1 _ _ _) ?_
    refine wl_m (.tmp 33) (.bool false) ?_
    refine wl_skip rfl (wl_skip rfl ?_)
    refine wl_pick (.tmp 34) (.tmp 36) (.const (.bool false)) false (.bool false) (fun _ => rfl) rfl rfl rfl ?_
    refine wl_m (.tmp 37) (.bool false) ?_
    refine wl_skip rfl (wl_skip rfl (wl_skip rfl ?_))
    refine wl_pick (.tmp 38) (.tmp 41) (.const (.bool false)) false (.bool false) (fun _ => rfl) rfl rfl rfl ?_
    refine wl_m (.tmp 42) (.bool false) ?_
    refine w_nil (xn_then (w_condF rfl (w_seq ?_)))
    cases hf2 : dgt (bt s (i)) with
    | true =>
     cases q with
     | true =>
      refine w_reg ?_
      refine wl_m (.tmp 8) (.int .u8 (bt s (i))) ?_
      refine wl_call 49 [(.tmp 44)] _ [.int .u8 (bt s (i))] (.bool true) rfl rfl (fun _ _ => by kernel_rfl) (digit_c hf2 _) rfl ?_
      intro w21 hq
      replace M := M.trans hq
      clear hq
      refine wl_un (fun v => Op.unary .not v) (.tmp 45) (.bool true) (.bool false) (fun _ => rfl) rfl (by kernel_rfl) rfl ?_
      refine wl_m (.tmp 46) (.bool false) ?_
      refine wl_mv (.tmp 6) (.bool true) (fun _ => rfl) e6 rfl ?_
      refine wl_un (fun v => Op.unary .not v) (.tmp 48) (.bool true) (.bool false) (fun _ => rfl) rfl (by kernel_rfl) rfl ?_
      refine wl_m (.tmp 49) (.bool false) ?_
      refine wl_skip rfl (wl_skip rfl (wl_skip rfl ?_))
      refine wl_pick (.tmp 50) (.tmp 53) (.const (.bool false)) false (.bool false) (fun _ => rfl) rfl rfl rfl ?_
      refine wl_m (.tmp 54) (.bool false) ?_
      refine wl_skip rfl (wl_skip rfl (wl_skip rfl (wl_skip rfl ?_)))
      refine wl_pick (.tmp 55) (.tmp 59) (.const (.bool false)) false (.bool false) (fun _ => rfl) rfl rfl rfl ?_
      refine wl_pick (.tmp 47) (.const (.bool true)) (.tmp 60) false (.bool false) (fun _ => rfl) rfl rfl rfl ?_
      refine wl_m (.tmp 61) (.bool false) ?_
      refine w_nil (xn_then (w_condF rfl (w_skip (xn_blk (xn_then (w_seq ?_))))))
      cases o with
      | true =>
       refine w_reg ?_
       refine wl_mv (.tmp 5) (.bool true) (fun _ => rfl) e5 rfl ?_
       refine wl_m (.tmp 63) (.bool true) ?_
       refine wl_skip rfl (wl_skip rfl ?_)
       refine wl_pick (.tmp 64) (.const (.bool true)) (.tmp 66) true (.bool true) (fun _ => rfl) rfl rfl rfl ?_
       refine wl_m (.tmp 67) (.bool true) ?_
       refine w_nil (xn_then (w_seq (w_reg ?_)))
       refine wl_m (.tmp 5) (.bool true) ?_
       refine wl_m (.tmp 68) (.bool true) ?_
       refine wl_skip rfl (wl_skip rfl ?_)
       refine wl_pick (.tmp 69) (.const (.bool true)) (.tmp 71) true (.bool true) (fun _ => rfl) rfl rfl rfl ?_
       refine w_nil (xn_then (w_condT rfl (w_reg ?_)))
       refine wl_mv (.tmp 4) (.int .i64 ((i : Nat) : Int)) (fun _ => rfl) e4 rfl ?_
       refine wl_b .add 3 (.tmp 73) (.const (.int .i64 (1))) (.int .i64 ((i : Nat) : Int)) (.int .i64 (1)) (.int .i64 ((i + 1 : Nat) : Int)) (add1r (k := i) (by omega) _ _ _) ?_
       refine wl_m (.tmp 74) (.int .i64 ((i + 1 : Nat) : Int)) ?_
       refine w_nil (xn_blk (xn_then (w_reg ?_)))
       refine wl_mv (.tmp 4) (.int .i64 ((i : Nat) : Int)) (fun _ => rfl) e4 rfl ?_
       refine wl_b .add 3 (.tmp 26) (.const (.int .i64 (1))) (.int .i64 ((i : Nat) : Int)) (.int .i64 (1)) (.int .i64 ((i + 1 : Nat) : Int)) (add1r (k := i) (by omega) _ _ _) ?_
       refine wl_m (.tmp 27) (.int .i64 ((i + 1 : Nat) : Int)) ?_
       refine w_nil ?_
       exact xn_loop (s.size - (i + 1)) (by omega) ⟨i + 1, i + 1, true, true, rfl, e0, rfl, rfl, rfl, e6, e7, by omega, by omega, by rw [hR, gx_in (of_decide_eq_true hf0)]; simp [hf1, hf2], M⟩
      | false =>
       cases hf3 : (bt s (i) == 48) with
       | true =>
        refine w_reg ?_
        refine wl_mv (.tmp 5) (.bool false) (fun _ => rfl) e5 rfl ?_
        refine wl_m (.tmp 63) (.bool false) ?_
        refine wl_m (.tmp 8) (.int .u8 (bt s (i))) ?_
        refine wl_b .neq 5 (.tmp 65) (.const (.int .u8 (48))) (.int .u8 (bt s (i))) (.int .u8 (48)) (.bool false) (ne5r hf3 _ _ _) ?_
        refine wl_pick (.tmp 64) (.const (.bool true)) (.tmp 66) false (.bool false) (fun _ => rfl) rfl rfl rfl ?_
        refine wl_m (.tmp 67) (.bool false) ?_
        refine w_nil (xn_then (w_seq ?_))
        cases hf4 : decide (p = 0) with
        | true =>
         have hf4p := of_decide_eq_true hf4
         refine w_reg ?_
         refine wl_m (.tmp 5) (.bool false) ?_
         refine wl_m (.tmp 68) (.bool false) ?_
         refine wl_mv (.tmp 7) (.int .i64 ((p : Nat) : Int)) (fun _ => rfl) e7 rfl ?_
         refine wl_b .eql 3 (.tmp 70) (.const (.int .i64 (0))) (.int .i64 ((p : Nat) : Int)) (.int .i64 (0)) (.bool true) (eqN hf4 _ _ _) ?_
         refine wl_pick (.tmp 69) (.const (.bool true)) (.tmp 71) false (.bool true) (fun _ => rfl) rfl rfl rfl ?_
         refine w_nil (xn_then (w_condT rfl (w_reg ?_)))
         refine wl_mv (.tmp 4) (.int .i64 ((i : Nat) : Int)) (fun _ => rfl) e4 rfl ?_
         refine wl_b .add 3 (.tmp 73) (.const (.int .i64 (1))) (.int .i64 ((i : Nat) : Int)) (.int .i64 (1)) (.int .i64 ((i + 1 : Nat) : Int)) (add1r (k := i) (by omega) _ _ _) ?_
         refine wl_m (.tmp 74) (.int .i64 ((i + 1 : Nat) : Int)) ?_
         refine w_nil (xn_blk (xn_then (w_reg ?_)))
         refine wl_mv (.tmp 4) (.int .i64 ((i : Nat) : Int)) (fun _ => rfl) e4 rfl ?_
         refine wl_b .add 3 (.tmp 26) (.const (.int .i64 (1))) (.int .i64 ((i : Nat) : Int)) (.int .i64 (1)) (.int .i64 ((i + 1 : Nat) : Int)) (add1r (k := i) (by omega) _ _ _) ?_
         refine wl_m (.tmp 27) (.int .i64 ((i + 1 : Nat) : Int)) ?_
         refine w_nil ?_
         exact xn_loop (s.size - (i + 1)) (by omega) ⟨i + 1, i + 1, false, true, rfl, e0, rfl, rfl, rfl, e6, e7, by omega, by omega, by rw [hR, gx_in (of_decide_eq_true hf0)]; simp [hf1, hf2, hf3, hf4], M⟩
        | false =>
         have hf4p := of_decide_eq_false hf4
         refine w_reg ?_
         refine wl_m (.tmp 5) (.bool false) ?_
         refine wl_m (.tmp 68) (.bool false) ?_
         refine wl_mv (.tmp 7) (.int .i64 ((p : Nat) : Int)) (fun _ => rfl) e7 rfl ?_
         refine wl_b .eql 3 (.tmp 70) (.const (.int .i64 (0))) (.int .i64 ((p : Nat) : Int)) (.int .i64 (0)) (.bool false) (eqN hf4 _ _ _) ?_
         refine wl_pick (.tmp 69) (.const (.bool true)) (.tmp 71) false (.bool false) (fun _ => rfl) rfl rfl rfl ?_
         refine w_nil (xn_then (w_condF rfl (w_skip (xn_blk (xn_then (w_reg ?_))))))
         refine wl_mv (.tmp 4) (.int .i64 ((i : Nat) : Int)) (fun _ => rfl) e4 rfl ?_
         refine wl_b .add 3 (.tmp 26) (.const (.int .i64 (1))) (.int .i64 ((i : Nat) : Int)) (.int .i64 (1)) (.int .i64 ((i + 1 : Nat) : Int)) (add1r (k := i) (by omega) _ _ _) ?_
         refine wl_m (.tmp 27) (.int .i64 ((i + 1 : Nat) : Int)) ?_
         refine w_nil ?_
         exact xn_loop (s.size - (i + 1)) (by omega) ⟨i + 1, best, false, true, rfl, e0, e3, rfl, rfl, e6, e7, by omega, by omega, by rw [hR, gx_in (of_decide_eq_true hf0)]; simp [hf1, hf2, hf3, hf4], M⟩
       | false =>
        refine w_reg ?_
        refine wl_mv (.tmp 5) (.bool false) (fun _ => rfl) e5 rfl ?_
        refine wl_m (.tmp 63) (.bool false) ?_
        refine wl_m (.tmp 8) (.int .u8 (bt s (i))) ?_
        refine wl_b .neq 5 (.tmp 65) (.const (.int .u8 (48))) (.int .u8 (bt s (i))) (.int .u8 (48)) (.bool true) (ne5r hf3 _ _ _) ?_
        refine wl_pick (.tmp 64) (.const (.bool true)) (.tmp 66) false (.bool true) (fun _ => rfl) rfl rfl rfl ?_
        refine wl_m (.tmp 67) (.bool true) ?_
        refine w_nil (xn_then (w_seq (w_reg ?_)))
        refine wl_m (.tmp 5) (.bool true) ?_
        refine wl_m (.tmp 68) (.bool true) ?_
        refine wl_skip rfl (wl_skip rfl ?_)
        refine wl_pick (.tmp 69) (.const (.bool true)) (.tmp 71) true (.bool true) (fun _ => rfl) rfl rfl rfl ?_
        refine w_nil (xn_then (w_condT rfl (w_reg ?_)))
        refine wl_mv (.tmp 4) (.int .i64 ((i : Nat) : Int)) (fun _ => rfl) e4 rfl ?_
        refine wl_b .add 3 (.tmp 73) (.const (.int .i64 (1))) (.int .i64 ((i : Nat) : Int)) (.int .i64 (1)) (.int .i64 ((i + 1 : Nat) : Int)) (add1r (k := i) (by omega) _ _ _) ?_
        refine wl_m (.tmp 74) (.int .i64 ((i + 1 : Nat) : Int)) ?_
        refine w_nil (xn_blk (xn_then (w_reg ?_)))
        refine wl_mv (.tmp 4) (.int .i64 ((i : Nat) : Int)) (fun _ => rfl) e4 rfl ?_
        refine wl_b .add 3 (.tmp 26) (.const (.int .i64 (1))) (.int .i64 ((i : Nat) : Int)) (.int .i64 (1)) (.int .i64 ((i + 1 : Nat) : Int)) (add1r (k := i) (by omega) _ _ _) ?_
        refine wl_m (.tmp 27) (.int .i64 ((i + 1 : Nat) : Int)) ?_
        refine w_nil ?_
        exact xn_loop (s.size - (i + 1)) (by omega) ⟨i + 1, i + 1, true, true, rfl, e0, rfl, rfl, rfl, e6, e7, by omega, by omega, by rw [hR, gx_in (of_decide_eq_true hf0)]; simp [hf1, hf2, hf3], M⟩
     | false =>
      cases hf3 : decide (p < i) with
      | true =>
       have hf3p := of_decide_eq_true hf3
       cases hf4 : (bt s (p) == 48) with
       | true =>
        refine w_reg ?_
        refine wl_m (.tmp 8) (.int .u8 (bt s (i))) ?_
        refine wl_call 49 [(.tmp 44)] _ [.int .u8 (bt s (i))] (.bool true) rfl rfl (fun _ _ => by kernel_rfl) (digit_c hf2 _) rfl ?_
        intro w21 hq
        replace M := M.trans hq
        clear hq
        refine wl_un (fun v => Op.unary .not v) (.tmp 45) (.bool true) (.bool false) (fun _ => rfl) rfl (by kernel_rfl) rfl ?_
        refine wl_m (.tmp 46) (.bool false) ?_
        refine wl_mv (.tmp 6) (.bool false) (fun _ => rfl) e6 rfl ?_
        refine wl_un (fun v => Op.unary .not v) (.tmp 48) (.bool false) (.bool true) (fun _ => rfl) rfl (by kernel_rfl) rfl ?_
        refine wl_m (.tmp 49) (.bool true) ?_
        refine wl_mv (.tmp 4) (.int .i64 ((i : Nat) : Int)) (fun _ => rfl) e4 rfl ?_
        refine wl_mv (.tmp 7) (.int .i64 ((p : Nat) : Int)) (fun _ => rfl) e7 rfl ?_
        refine wl_b .gtr 3 (.tmp 51) (.tmp 52) (.int .i64 ((i : Nat) : Int)) (.int .i64 ((p : Nat) : Int)) (.bool true) (gtN hf3 _ _ _) ?_
        refine wl_pick (.tmp 50) (.tmp 53) (.const (.bool false)) true (.bool true) (fun _ => rfl) rfl rfl rfl ?_
        refine wl_m (.tmp 54) (.bool true) ?_
        refine wl_mv (.tmp 0) (.string s) (fun _ => rfl) e0 rfl ?_
        refine wl_mv (.tmp 7) (.int .i64 ((p : Nat) : Int)) (fun _ => rfl) e7 rfl ?_
        refine wl_bin (fun x y => Instr.index 9 x y) (.tmp 56) (.tmp 57) (.string s) (.int .i64 ((p : Nat) : Int)) (.int .u8 (bt s (p))) (fun _ => rfl) rfl rfl (idx_b (by omega) _) rfl ?_
        refine wl_b .eql 5 (.tmp 58) (.const (.int .u8 (48))) (.int .u8 (bt s (p))) (.int .u8 (48)) (.bool true) (eq5r hf4 _ _ _) ?_
        refine wl_pick (.tmp 55) (.tmp 59) (.const (.bool false)) true (.bool true) (fun _ => rfl) rfl rfl rfl ?_
        refine wl_pick (.tmp 47) (.const (.bool true)) (.tmp 60) false (.bool true) (fun _ => rfl) rfl rfl rfl ?_
        refine wl_m (.tmp 61) (.bool true) ?_
        refine w_nil (xn_then (w_condT rfl (w_seq (w_reg ?_))))
        refine wl_mv (.tmp 3) (.int .i64 ((best : Nat) : Int)) (fun _ => rfl) e3 rfl ?_
        refine wl_m (.tmp 62) (.int .i64 ((best : Nat) : Int)) ?_
        refine w_nil (xn_then (w_ret (xr_blk (xr_then (xr_blk (xr_then (xr_then (xr_blk (xr_then ?_)))))))))
        have hfin : pfx s = best := by rw [hR, gx_in (of_decide_eq_true hf0)]; simp [hf1, hf2, hf3p, hf4]
        exact w_ret1 _ (.int .i64 ((best : Nat) : Int)) rfl rfl ⟨by rw [hfin], M⟩
       | false =>
        refine w_reg ?_
        refine wl_m (.tmp 8) (.int .u8 (bt s (i))) ?_
        refine wl_call 49 [(.tmp 44)] _ [.int .u8 (bt s (i))] (.bool true) rfl rfl (fun _ _ => by kernel_rfl) (digit_c hf2 _) rfl ?_
        intro w21 hq
        replace M := M.trans hq
        clear hq
        refine wl_un (fun v => Op.unary .not v) (.tmp 45) (.bool true) (.bool false) (fun _ => rfl) rfl (by kernel_rfl) rfl ?_
        refine wl_m (.tmp 46) (.bool false) ?_
        refine wl_mv (.tmp 6) (.bool false) (fun _ => rfl) e6 rfl ?_
        refine wl_un (fun v => Op.unary .not v) (.tmp 48) (.bool false) (.bool true) (fun _ => rfl) rfl (by kernel_rfl) rfl ?_
        refine wl_m (.tmp 49) (.bool true) ?_
        refine wl_mv (.tmp 4) (.int .i64 ((i : Nat) : Int)) (fun _ => rfl) e4 rfl ?_
        refine wl_mv (.tmp 7) (.int .i64 ((p : Nat) : Int)) (fun _ => rfl) e7 rfl ?_
        refine wl_b .gtr 3 (.tmp 51) (.tmp 52) (.int .i64 ((i : Nat) : Int)) (.int .i64 ((p : Nat) : Int)) (.bool true) (gtN hf3 _ _ _) ?_
        refine wl_pick (.tmp 50) (.tmp 53) (.const (.bool false)) true (.bool true) (fun _ => rfl) rfl rfl rfl ?_
        refine wl_m (.tmp 54) (.bool true) ?_
        refine wl_mv (.tmp 0) (.string s) (fun _ => rfl) e0 rfl ?_
        refine wl_mv (.tmp 7) (.int .i64 ((p : Nat) : Int)) (fun _ => rfl) e7 rfl ?_
        refine wl_bin (fun x y => Instr.index 9 x y) (.tmp 56) (.tmp 57) (.string s) (.int .i64 ((p : Nat) : Int)) (.int .u8 (bt s (p))) (fun _ => rfl) rfl rfl (idx_b (by omega) _) rfl ?_
        refine wl_b .eql 5 (.tmp 58) (.const (.int .u8 (48))) (.int .u8 (bt s (p))) (.int .u8 (48)) (.bool false) (eq5r hf4 _ _ _) ?_
        refine wl_pick (.tmp 55) (.tmp 59) (.const (.bool false)) true (.bool false) (fun _ => rfl) rfl rfl rfl ?_
        refine wl_pick (.tmp 47) (.const (.bool true)) (.tmp 60) false (.bool false) (fun _ => rfl) rfl rfl rfl ?_
        refine wl_m (.tmp 61) (.bool false) ?_
        refine w_nil (xn_then (w_condF rfl (w_skip (xn_blk (xn_then (w_seq ?_))))))
        cases o with
        | true =>
         refine w_reg ?_
         refine wl_mv (.tmp 5) (.bool true) (fun _ => rfl) e5 rfl ?_
         refine wl_m (.tmp 63) (.bool true) ?_
         refine wl_skip rfl (wl_skip rfl ?_)
         refine wl_pick (.tmp 64) (.const (.bool true)) (.tmp 66) true (.bool true) (fun _ => rfl) rfl rfl rfl ?_
         refine wl_m (.tmp 67) (.bool true) ?_
         refine w_nil (xn_then (w_seq (w_reg ?_)))
         refine wl_m (.tmp 5) (.bool true) ?_
         refine wl_m (.tmp 68) (.bool true) ?_
         refine wl_skip rfl (wl_skip rfl ?_)
         refine wl_pick (.tmp 69) (.const (.bool true)) (.tmp 71) true (.bool true) (fun _ => rfl) rfl rfl rfl ?_
         refine w_nil (xn_then (w_condT rfl (w_reg ?_)))
         refine wl_mv (.tmp 4) (.int .i64 ((i : Nat) : Int)) (fun _ => rfl) e4 rfl ?_
         refine wl_b .add 3 (.tmp 73) (.const (.int .i64 (1))) (.int .i64 ((i : Nat) : Int)) (.int .i64 (1)) (.int .i64 ((i + 1 : Nat) : Int)) (add1r (k := i) (by omega) _ _ _) ?_
         refine wl_m (.tmp 74) (.int .i64 ((i + 1 : Nat) : Int)) ?_
         refine w_nil (xn_blk (xn_then (w_reg ?_)))
         refine wl_mv (.tmp 4) (.int .i64 ((i : Nat) : Int)) (fun _ => rfl) e4 rfl ?_
         refine wl_b .add 3 (.tmp 26) (.const (.int .i64 (1))) (.int .i64 ((i : Nat) : Int)) (.int .i64 (1)) (.int .i64 ((i + 1 : Nat) : Int)) (add1r (k := i) (by omega) _ _ _) ?_
         refine wl_m (.tmp 27) (.int .i64 ((i + 1 : Nat) : Int)) ?_
         refine w_nil ?_
         exact xn_loop (s.size - (i + 1)) (by omega) ⟨i + 1, i + 1, true, false, rfl, e0, rfl, rfl, rfl, e6, e7, by omega, by omega, by rw [hR, gx_in (of_decide_eq_true hf0)]; simp [hf1, hf2, hf3p, hf4], M⟩
        | false =>
         cases hf5 : (bt s (i) == 48) with
         | true =>
          refine w_reg ?_
          refine wl_mv (.tmp 5) (.bool false) (fun _ => rfl) e5 rfl ?_
          refine wl_m (.tmp 63) (.bool false) ?_
          refine wl_m (.tmp 8) (.int .u8 (bt s (i))) ?_
          refine wl_b .neq 5 (.tmp 65) (.const (.int .u8 (48))) (.int .u8 (bt s (i))) (.int .u8 (48)) (.bool false) (ne5r hf5 _ _ _) ?_
          refine wl_pick (.tmp 64) (.const (.bool true)) (.tmp 66) false (.bool false) (fun _ => rfl) rfl rfl rfl ?_
          refine wl_m (.tmp 67) (.bool false) ?_
          refine w_nil (xn_then (w_seq ?_))
          cases hf6 : decide (p = 0) with
          | true =>
           have hf6p := of_decide_eq_true hf6
           refine w_reg ?_
           refine wl_m (.tmp 5) (.bool false) ?_
           refine wl_m (.tmp 68) (.bool false) ?_
           refine wl_mv (.tmp 7) (.int .i64 ((p : Nat) : Int)) (fun _ => rfl) e7 rfl ?_
           refine wl_b .eql 3 (.tmp 70) (.const (.int .i64 (0))) (.int .i64 ((p : Nat) : Int)) (.int .i64 (0)) (.bool true) (eqN hf6 _ _ _) ?_
           refine wl_pick (.tmp 69) (.const (.bool true)) (.tmp 71) false (.bool true) (fun _ => rfl) rfl rfl rfl ?_
           refine w_nil (xn_then (w_condT rfl (w_reg ?_)))
           refine wl_mv (.tmp 4) (.int .i64 ((i : Nat) : Int)) (fun _ => rfl) e4 rfl ?_
           refine wl_b .add 3 (.tmp 73) (.const (.int .i64 (1))) (.int .i64 ((i : Nat) : Int)) (.int .i64 (1)) (.int .i64 ((i + 1 : Nat) : Int)) (add1r (k := i) (by omega) _ _ _) ?_
           refine wl_m (.tmp 74) (.int .i64 ((i + 1 : Nat) : Int)) ?_
           refine w_nil (xn_blk (xn_then (w_reg ?_)))
           refine wl_mv (.tmp 4) (.int .i64 ((i : Nat) : Int)) (fun _ => rfl) e4 rfl ?_
           refine wl_b .add 3 (.tmp 26) (.const (.int .i64 (1))) (.int .i64 ((i : Nat) : Int)) (.int .i64 (1)) (.int .i64 ((i + 1 : Nat) : Int)) (add1r (k := i) (by omega) _ _ _) ?_
           refine wl_m (.tmp 27) (.int .i64 ((i + 1 : Nat) : Int)) ?_
           refine w_nil ?_
           exact xn_loop (s.size - (i + 1)) (by omega) ⟨i + 1, i + 1, false, false, rfl, e0, rfl, rfl, rfl, e6, e7, by omega, by omega, by rw [hR, gx_in (of_decide_eq_true hf0)]; simp [hf1, hf2, hf3p, hf4, hf5, hf6], M⟩
          | false =>
           have hf6p := of_decide_eq_false hf6
           refine w_reg ?_
           refine wl_m (.tmp 5) (.bool false) ?_
           refine wl_m (.tmp 68) (.bool false) ?_
           refine wl_mv (.tmp 7) (.int .i64 ((p : Nat) : Int)) (fun _ => rfl) e7 rfl ?_
           refine wl_b .eql 3 (.tmp 70) (.const (.int .i64 (0))) (.int .i64 ((p : Nat) : Int)) (.int .i64 (0)) (.bool false) (eqN hf6 _ _ _) ?_
           refine wl_pick (.tmp 69) (.const (.bool true)) (.tmp 71) false (.bool false) (fun _ => rfl) rfl rfl rfl ?_
           refine w_nil (xn_then (w_condF rfl (w_skip (xn_blk (xn_then (w_reg ?_))))))
           refine wl_mv (.tmp 4) (.int .i64 ((i : Nat) : Int)) (fun _ => rfl) e4 rfl ?_
           refine wl_b .add 3 (.tmp 26) (.const (.int .i64 (1))) (.int .i64 ((i : Nat) : Int)) (.int .i64 (1)) (.int .i64 ((i + 1 : Nat) : Int)) (add1r (k := i) (by omega) _ _ _) ?_
           refine wl_m (.tmp 27) (.int .i64 ((i + 1 : Nat) : Int)) ?_
           refine w_nil ?_
           exact xn_loop (s.size - (i + 1)) (by omega) ⟨i + 1, best, false, false, rfl, e0, e3, rfl, rfl, e6, e7, by omega, by omega, by rw [hR, gx_in (of_decide_eq_true hf0)]; simp [hf1, hf2, hf3p, hf4, hf5, hf6], M⟩
         | false =>
          refine w_reg ?_
          refine wl_mv (.tmp 5) (.bool false) (fun _ => rfl) e5 rfl ?_
          refine wl_m (.tmp 63) (.bool false) ?_
          refine wl_m (.tmp 8) (.int .u8 (bt s (i))) ?_
          refine wl_b .neq 5 (.tmp 65) (.const (.int .u8 (48))) (.int .u8 (bt s (i))) (.int .u8 (48)) (.bool true) (ne5r hf5 _ _ _) ?_
          refine wl_pick (.tmp 64) (.const (.bool true)) (.tmp 66) false (.bool true) (fun _ => rfl) rfl rfl rfl ?_
          refine wl_m (.tmp 67) (.bool true) ?_
          refine w_nil (xn_then (w_seq (w_reg ?_)))
          refine wl_m (.tmp 5) (.bool true) ?_
          refine wl_m (.tmp 68) (.bool true) ?_
          refine wl_skip rfl (wl_skip rfl ?_)
          refine wl_pick (.tmp 69) (.const (.bool true)) (.tmp 71) true (.bool true) (fun _ => rfl) rfl rfl rfl ?_
          refine w_nil (xn_then (w_condT rfl (w_reg ?_)))
          refine wl_mv (.tmp 4) (.int .i64 ((i : Nat) : Int)) (fun _ => rfl) e4 rfl ?_
          refine wl_b .add 3 (.tmp 73) (.const (.int .i64 (1))) (.int .i64 ((i : Nat) : Int)) (.int .i64 (1)) (.int .i64 ((i + 1 : Nat) : Int)) (add1r (k := i) (by omega) _ _ _) ?_
          refine wl_m (.tmp 74) (.int .i64 ((i + 1 : Nat) : Int)) ?_
          refine w_nil (xn_blk (xn_then (w_reg ?_)))
          refine wl_mv (.tmp 4) (.int .i64 ((i : Nat) : Int)) (fun _ => rfl) e4 rfl ?_
          refine wl_b .add 3 (.tmp 26) (.const (.int .i64 (1))) (.int .i64 ((i : Nat) : Int)) (.int .i64 (1)) (.int .i64 ((i + 1 : Nat) : Int)) (add1r (k := i) (by omega) _ _ _) ?_
          refine wl_m (.tmp 27) (.int .i64 ((i + 1 : Nat) : Int)) ?_
          refine w_nil ?_
          exact xn_loop (s.size - (i + 1)) (by omega) ⟨i + 1, i + 1, true, false, rfl, e0, rfl, rfl, rfl, e6, e7, by omega, by omega, by rw [hR, gx_in (of_decide_eq_true hf0)]; simp [hf1, hf2, hf3p, hf4, hf5], M⟩
      | false =>
       have hf3p := of_decide_eq_false hf3
       refine w_reg ?_
       refine wl_m (.tmp 8) (.int .u8 (bt s (i))) ?_
       refine wl_call 49 [(.tmp 44)] _ [.int .u8 (bt s (i))] (.bool true) rfl rfl (fun _ _ => by kernel_rfl) (digit_c hf2 _) rfl ?_
       intro w21 hq
       replace M := M.trans hq
       clear hq
       refine wl_un (fun v => Op.unary .not v) (.tmp 45) (.bool true) (.bool false) (fun _ => rfl) rfl (by kernel_rfl) rfl ?_
       refine wl_m (.tmp 46) (.bool false) ?_
       refine wl_mv (.tmp 6) (.bool false) (fun _ => rfl) e6 rfl ?_
       refine wl_un (fun v => Op.unary .not v) (.tmp 48) (.bool false) (.bool true) (fun _ => rfl) rfl (by kernel_rfl) rfl ?_
       refine wl_m (.tmp 49) (.bool true) ?_
       refine wl_mv (.tmp 4) (.int .i64 ((i : Nat) : Int)) (fun _ => rfl) e4 rfl ?_
       refine wl_mv (.tmp 7) (.int .i64 ((p : Nat) : Int)) (fun _ => rfl) e7 rfl ?_
       refine wl_b .gtr 3 (.tmp 51) (.tmp 52) (.int .i64 ((i : Nat) : Int)) (.int .i64 ((p : Nat) : Int)) (.bool false) (gtN hf3 _ _ _) ?_
       refine wl_pick (.tmp 50) (.tmp 53) (.const (.bool false)) true (.bool false) (fun _ => rfl) rfl rfl rfl ?_
       refine wl_m (.tmp 54) (.bool false) ?_
       refine wl_skip rfl (wl_skip rfl (wl_skip rfl (wl_skip rfl ?_)))
       refine wl_pick (.tmp 55) (.tmp 59) (.const (.bool false)) false (.bool false) (fun _ => rfl) rfl rfl rfl ?_
       refine wl_pick (.tmp 47) (.const (.bool true)) (.tmp 60) false (.bool false) (fun _ => rfl) rfl rfl rfl ?_
       refine wl_m (.tmp 61) (.bool false) ?_
       refine w_nil (xn_then (w_condF rfl (w_skip (xn_blk (xn_then (w_seq ?_))))))
       cases o with
       | true =>
        refine w_reg ?_
        refine wl_mv (.tmp 5) (.bool true) (fun _ => rfl) e5 rfl ?_
        refine wl_m (.tmp 63) (.bool true) ?_
        refine wl_skip rfl (wl_skip rfl ?_)
        refine wl_pick (.tmp 64) (.const (.bool true)) (.tmp 66) true (.bool true) (fun _ => rfl) rfl rfl rfl ?_
        refine wl_m (.tmp 67) (.bool true) ?_
        refine w_nil (xn_then (w_seq (w_reg ?_)))
        refine wl_m (.tmp 5) (.bool true) ?_
        refine wl_m (.tmp 68) (.bool true) ?_
        refine wl_skip rfl (wl_skip rfl ?_)
        refine wl_pick (.tmp 69) (.const (.bool true)) (.tmp 71) true (.bool true) (fun _ => rfl) rfl rfl rfl ?_
        refine w_nil (xn_then (w_condT rfl (w_reg ?_)))
        refine wl_mv (.tmp 4) (.int .i64 ((i : Nat) : Int)) (fun _ => rfl) e4 rfl ?_
        refine wl_b .add 3 (.tmp 73) (.const (.int .i64 (1))) (.int .i64 ((i : Nat) : Int)) (.int .i64 (1)) (.int .i64 ((i + 1 : Nat) : Int)) (add1r (k := i) (by omega) _ _ _) ?_
        refine wl_m (.tmp 74) (.int .i64 ((i + 1 : Nat) : Int)) ?_
        refine w_nil (xn_blk (xn_then (w_reg ?_)))
        refine wl_mv (.tmp 4) (.int .i64 ((i : Nat) : Int)) (fun _ => rfl) e4 rfl ?_
        refine wl_b .add 3 (.tmp 26) (.const (.int .i64 (1))) (.int .i64 ((i : Nat) : Int)) (.int .i64 (1)) (.int .i64 ((i + 1 : Nat) : Int)) (add1r (k := i) (by omega) _ _ _) ?_
        refine wl_m (.tmp 27) (.int .i64 ((i + 1 : Nat) : Int)) ?_
        refine w_nil ?_
        exact xn_loop (s.size - (i + 1)) (by omega) ⟨i + 1, i + 1, true, false, rfl, e0, rfl, rfl, rfl, e6, e7, by omega, by omega, by rw [hR, gx_in (of_decide_eq_true hf0)]; simp [hf1, hf2, hf3p], M⟩
       | false =>
        cases hf4 : (bt s (i) == 48) with
        | true =>
         refine w_reg ?_
         refine wl_mv (.tmp 5) (.bool false) (fun _ => rfl) e5 rfl ?_
         refine wl_m (.tmp 63) (.bool false) ?_
         refine wl_m (.tmp 8) (.int .u8 (bt s (i))) ?_
         refine wl_b .neq 5 (.tmp 65) (.const (.int .u8 (48))) (.int .u8 (bt s (i))) (.int .u8 (48)) (.bool false) (ne5r hf4 _ _ _) ?_
         refine wl_pick (.tmp 64) (.const (.bool true)) (.tmp 66) false (.bool false) (fun _ => rfl) rfl rfl rfl ?_
         refine wl_m (.tmp 67) (.bool false) ?_
         refine w_nil (xn_then (w_seq ?_))
         cases hf5 : decide (p = 0) with
         | true =>
          have hf5p := of_decide_eq_true hf5
          refine w_reg ?_
          refine wl_m (.tmp 5) (.bool false) ?_
          refine wl_m (.tmp 68) (.bool false) ?_
          refine wl_mv (.tmp 7) (.int .i64 ((p : Nat) : Int)) (fun _ => rfl) e7 rfl ?_
          refine wl_b .eql 3 (.tmp 70) (.const (.int .i64 (0))) (.int .i64 ((p : Nat) : Int)) (.int .i64 (0)) (.bool true) (eqN hf5 _ _ _) ?_
          refine wl_pick (.tmp 69) (.const (.bool true)) (.tmp 71) false (.bool true) (fun _ => rfl) rfl rfl rfl ?_
          refine w_nil (xn_then (w_condT rfl (w_reg ?_)))
          refine wl_mv (.tmp 4) (.int .i64 ((i : Nat) : Int)) (fun _ => rfl) e4 rfl ?_
          refine wl_b .add 3 (.tmp 73) (.const (.int .i64 (1))) (.int .i64 ((i : Nat) : Int)) (.int .i64 (1)) (.int .i64 ((i + 1 : Nat) : Int)) (add1r (k := i) (by omega) _ _ _) ?_
          refine wl_m (.tmp 74) (.int .i64 ((i + 1 : Nat) : Int)) ?_
          refine w_nil (xn_blk (xn_then (w_reg ?_)))
          refine wl_mv (.tmp 4) (.int .i64 ((i : Nat) : Int)) (fun _ => rfl) e4 rfl ?_
          refine wl_b .add 3 (.tmp 26) (.const (.int .i64 (1))) (.int .i64 ((i : Nat) : Int)) (.int .i64 (1)) (.int .i64 ((i + 1 : Nat) : Int)) (add1r (k := i) (by omega) _ _ _) ?_
          refine wl_m (.tmp 27) (.int .i64 ((i + 1 : Nat) : Int)) ?_
          refine w_nil ?_
          exact xn_loop (s.size - (i + 1)) (by omega) ⟨i + 1, i + 1, false, false, rfl, e0, rfl, rfl, rfl, e6, e7, by omega, by omega, by rw [hR, gx_in (of_decide_eq_true hf0)]; simp [hf1, hf2, hf3p, hf4, hf5], M⟩
         | false =>
          have hf5p := of_decide_eq_false hf5
          refine w_reg ?_
          refine wl_m (.tmp 5) (.bool false) ?_
          refine wl_m (.tmp 68) (.bool false) ?_
          refine wl_mv (.tmp 7) (.int .i64 ((p : Nat) : Int)) (fun _ => rfl) e7 rfl ?_
          refine wl_b .eql 3 (.tmp 70) (.const (.int .i64 (0))) (.int .i64 ((p : Nat) : Int)) (.int .i64 (0)) (.bool false) (eqN hf5 _ _ _) ?_
          refine wl_pick (.tmp 69) (.const (.bool true)) (.tmp 71) false (.bool false) (fun _ => rfl) rfl rfl rfl ?_
          refine w_nil (xn_then (w_condF rfl (w_skip (xn_blk (xn_then (w_reg ?_))))))
          refine wl_mv (.tmp 4) (.int .i64 ((i : Nat) : Int)) (fun _ => rfl) e4 rfl ?_
          refine wl_b .add 3 (.tmp 26) (.const (.int .i64 (1))) (.int .i64 ((i : Nat) : Int)) (.int .i64 (1)) (.int .i64 ((i + 1 : Nat) : Int)) (add1r (k := i) (by omega) _ _ _) ?_
          refine wl_m (.tmp 27) (.int .i64 ((i + 1 : Nat) : Int)) ?_
          refine w_nil ?_
          exact xn_loop (s.size - (i + 1)) (by omega) ⟨i + 1, best, false, false, rfl, e0, e3, rfl, rfl, e6, e7, by omega, by omega, by rw [hR, gx_in (of_decide_eq_true hf0)]; simp [hf1, hf2, hf3p, hf4, hf5], M⟩
        | false =>
         refine w_reg ?_
         refine wl_mv (.tmp 5) (.bool false) (fun _ => rfl) e5 rfl ?_
         refine wl_m (.tmp 63) (.bool false) ?_
         refine wl_m (.tmp 8) (.int .u8 (bt s (i))) ?_
         refine wl_b .neq 5 (.tmp 65) (.const (.int .u8 (48))) (.int .u8 (bt s (i))) (.int .u8 (48)) (.bool true) (ne5r hf4 _ _ _) ?_
         refine wl_pick (.tmp 64) (.const (.bool true)) (.tmp 66) false (.bool true) (fun _ => rfl) rfl rfl rfl ?_
         refine wl_m (.tmp 67) (.bool true) ?_
         refine w_nil (xn_then (w_seq (w_reg ?_)))
         refine wl_m (.tmp 5) (.bool true) ?_
         refine wl_m (.tmp 68) (.bool true) ?_
         refine wl_skip rfl (wl_skip rfl ?_)
         refine wl_pick (.tmp 69) (.const (.bool true)) (.tmp 71) true (.bool true) (fun _ => rfl) rfl rfl rfl ?_
         refine w_nil (xn_then (w_condT rfl (w_reg ?_)))
         refine wl_mv (.tmp 4) (.int .i64 ((i : Nat) : Int)) (fun _ => rfl) e4 rfl ?_
         refine wl_b .add 3 (.tmp 73) (.const (.int .i64 (1))) (.int .i64 ((i : Nat) : Int)) (.int .i64 (1)) (.int .i64 ((i + 1 : Nat) : Int)) (add1r (k := i) (by omega) _ _ _) ?_
         refine wl_m (.tmp 74) (.int .i64 ((i + 1 : Nat) : Int)) ?_
         refine w_nil (xn_blk (xn_then (w_reg ?_)))
         refine wl_mv (.tmp 4) (.int .i64 ((i : Nat) : Int)) (fun _ => rfl) e4 rfl ?_
         refine wl_b .add 3 (.tmp 26) (.const (.int .i64 (1))) (.int .i64 ((i : Nat) : Int)) (.int .i64 (1)) (.int .i64 ((i + 1 : Nat) : Int)) (add1r (k := i) (by omega) _ _ _) ?_
         refine wl_m (.tmp 27) (.int .i64 ((i + 1 : Nat) : Int)) ?_
         refine w_nil ?_
         exact xn_loop (s.size - (i + 1)) (by omega) ⟨i + 1, i + 1, true, false, rfl, e0, rfl, rfl, rfl, e6, e7, by omega, by omega, by rw [hR, gx_in (of_decide_eq_true hf0)]; simp [hf1, hf2, hf3p, hf4], M⟩
    | false =>
     refine w_reg ?_
     refine wl_m (.tmp 8) (.int .u8 (bt s (i))) ?_
     refine wl_call 49 [(.tmp 44)] _ [.int .u8 (bt s (i))] (.bool false) rfl rfl (fun _ _ => by kernel_rfl) (digit_c hf2 _) rfl ?_
     intro w21 hq
     replace M := M.trans hq
     clear hq
     refine wl_un (fun v => Op.unary .not v) (.tmp 45) (.bool false) (.bool true) (fun _ => rfl) rfl (by kernel_rfl) rfl ?_
     refine wl_m (.tmp 46) (.bool true) ?_
     refine wl_skip rfl (wl_skip rfl (wl_skip rfl (wl_skip rfl (wl_skip rfl (wl_skip rfl (wl_skip rfl (wl_skip rfl (wl_skip rfl (wl_skip rfl (wl_skip rfl (wl_skip rfl (wl_skip rfl ?_))))))))))))
     refine wl_pick (.tmp 47) (.const (.bool true)) (.tmp 60) true (.bool true) (fun _ => rfl) rfl rfl rfl ?_
     refine wl_m (.tmp 61) (.bool true) ?_
     refine w_nil (xn_then (w_condT rfl (w_seq (w_reg ?_))))
     refine wl_mv (.tmp 3) (.int .i64 ((best : Nat) : Int)) (fun _ => rfl) e3 rfl ?_
     refine wl_m (.tmp 62) (.int .i64 ((best : Nat) : Int)) ?_
     refine w_nil (xn_then (w_ret (xr_blk (xr_then (xr_blk (xr_then (xr_then (xr_blk (xr_then ?_)))))))))
     have hfin : pfx s = best := by rw [hR, gx_in (of_decide_eq_true hf0)]; simp [hf1, hf2]
     exact w_ret1 _ (.int .i64 ((best : Nat) : Int)) rfl rfl ⟨by rw [hfin], M⟩
  | false =>
   have hf0p := of_decide_eq_false hf0
   refine w_reg ?_
   refine wl_mv (.tmp 4) (.int .i64 ((i : Nat) : Int)) (fun _ => rfl) e4 rfl ?_
   refine wl_mv (.tmp 0) (.string s) (fun _ => rfl) e0 rfl ?_
   refine wl_val (.int .i64 ((s.size : Nat) : Int)) (len_s _ _ s (by exact rfl) _ _ _ _ _ _) rfl ?_
   refine wl_b .lss 3 (.tmp 22) (.tmp 24) (.int .i64 ((i : Nat) : Int)) (.int .i64 ((s.size : Nat) : Int)) (.bool false) (ltN hf0 _ _ _) ?_
   refine w_nil (xn_then (w_condF rfl (w_exit (xx_then (xx_then (xx_blk (xn_then (w_seq (w_reg ?_)))))))))
   refine wl_mv (.tmp 3) (.int .i64 ((best : Nat) : Int)) (fun _ => rfl) e3 rfl ?_
   refine wl_m (.tmp 75) (.int .i64 ((best : Nat) : Int)) ?_
   refine w_nil (xn_then (w_ret ?_))
   have hfin : pfx s = best := by rw [hR, gx_out (of_decide_eq_false hf0)]
   exact w_ret1 _ (.int .i64 ((best : Nat) : Int)) rfl rfl ⟨by rw [hfin], M⟩
 ·skip
  refine w_seq ?_
  cases hf0 : decide (0 < s.size) with
  | true =>
   have hf0p := of_decide_eq_true hf0
   cases hf1 : (bt s (0) == 45) with
   | true =>
    refine w_reg ?_
    refine wl_m (.tmp 4) (.int .i64 (0)) ?_
    refine wl_m (.tmp 0) (.string s) ?_
    refine wl_val (.int .i64 ((s.size : Nat) : Int)) (len_s _ _ s (by exact rfl) _ _ _ _ _ _) rfl ?_
    refine wl_b .lss 3 (.tmp 9) (.tmp 11) (.int .i64 (0)) (.int .i64 ((s.size : Nat) : Int)) (.bool true) (ltN hf0 _ _ _) ?_
    refine wl_m (.tmp 12) (.bool true) ?_
    refine wl_m (.tmp 0) (.string s) ?_
    refine wl_m (.tmp 4) (.int .i64 (0)) ?_
    refine wl_bin (fun x y => Instr.index 9 x y) (.tmp 14) (.tmp 15) (.string s) (.int .i64 (0)) (.int .u8 (bt s (0))) (fun _ => rfl) rfl rfl (idx_b (by omega) _) rfl ?_
    refine wl_b .eql 5 (.tmp 16) (.const (.int .u8 (45))) (.int .u8 (bt s (0))) (.int .u8 (45)) (.bool true) (eq5r hf1 _ _ _) ?_
    refine wl_pick (.tmp 13) (.tmp 17) (.const (.bool false)) true (.bool true) (fun _ => rfl) rfl rfl rfl ?_
    refine w_nil (xn_then (w_condT rfl (w_reg ?_)))
    refine wl_m (.tmp 4) (.int .i64 (0)) ?_
    refine wl_b .add 3 (.tmp 19) (.const (.int .i64 (1))) (.int .i64 (0)) (.int .i64 (1)) (.int .i64 ((0 + 1 : Nat) : Int)) (add1r (k := 0) (by decide) _ _ _) ?_
    refine wl_m (.tmp 20) (.int .i64 ((0 + 1 : Nat) : Int)) ?_
    refine w_nil ?_
    exact xn_cut ⟨1, true, rfl, rfl, rfl, by omega, rfl, by unfold pfx; rw [hf1]; rfl, M⟩
   | false =>
    refine w_reg ?_
    refine wl_m (.tmp 4) (.int .i64 (0)) ?_
    refine wl_m (.tmp 0) (.string s) ?_
    refine wl_val (.int .i64 ((s.size : Nat) : Int)) (len_s _ _ s (by exact rfl) _ _ _ _ _ _) rfl ?_
    refine wl_b .lss 3 (.tmp 9) (.tmp 11) (.int .i64 (0)) (.int .i64 ((s.size : Nat) : Int)) (.bool true) (ltN hf0 _ _ _) ?_
    refine wl_m (.tmp 12) (.bool true) ?_
    refine wl_m (.tmp 0) (.string s) ?_
    refine wl_m (.tmp 4) (.int .i64 (0)) ?_
    refine wl_bin (fun x y => Instr.index 9 x y) (.tmp 14) (.tmp 15) (.string s) (.int .i64 (0)) (.int .u8 (bt s (0))) (fun _ => rfl) rfl rfl (idx_b (by omega) _) rfl ?_
    refine wl_b .eql 5 (.tmp 16) (.const (.int .u8 (45))) (.int .u8 (bt s (0))) (.int .u8 (45)) (.bool false) (eq5r hf1 _ _ _) ?_
    refine wl_pick (.tmp 13) (.tmp 17) (.const (.bool false)) true (.bool false) (fun _ => rfl) rfl rfl rfl ?_
    refine w_nil (xn_then (w_condF rfl (w_skip ?_)))
    exact xn_cut ⟨0, false, rfl, rfl, rfl, by omega, rfl, by unfold pfx; rw [hf1]; rfl, M⟩
  | false =>
   have hf0p := of_decide_eq_false hf0
   refine w_reg ?_
   refine wl_m (.tmp 4) (.int .i64 (0)) ?_
   refine wl_m (.tmp 0) (.string s) ?_
   refine wl_val (.int .i64 ((s.size : Nat) : Int)) (len_s _ _ s (by exact rfl) _ _ _ _ _ _) rfl ?_
   refine wl_b .lss 3 (.tmp 9) (.tmp 11) (.int .i64 (0)) (.int .i64 ((s.size : Nat) : Int)) (.bool false) (ltN hf0 _ _ _) ?_
   refine wl_m (.tmp 12) (.bool false) ?_
   refine wl_skip rfl (wl_skip rfl (wl_skip rfl (wl_skip rfl ?_)))
   refine wl_pick (.tmp 13) (.tmp 17) (.const (.bool false)) false (.bool false) (fun _ => rfl) rfl rfl rfl ?_
   refine w_nil (xn_then (w_condF rfl (w_skip ?_)))
   have hb0 : (bt s 0 == 45) = false := by rw [bt_out (by omega)]; rfl
   exact xn_cut ⟨0, false, rfl, rfl, rfl, by omega, rfl, by unfold pfx; rw [hb0]; rfl, M⟩
end Go.Proofs.YthgknegocfhdbaaDoor

