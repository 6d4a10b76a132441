/-
  For every text exciselaw03.DectextPrefix returns true, and its argument reads behind the call as it read before; the two tables of unicode/utf8 lie as the program's text lays them.
-/
import Derived.Test.YtdcojpbgijkmgaaDoorRows
import Derived.Test.YtdcojpbgijkmgaaDoorNum
import Derived.ProofKit
import Derived.OpenShut
import Derived.Lib.SmallJoins
import Derived.ChangeSame
import Derived.Test.YtdcojpbgijkmgaaDoorDec0
import Derived.Carry
import Derived.ChangeMaps5
import Derived.ChangeVars
import Derived.JoinedOf
import Derived.RowKitTokens
import Derived.LaidLaws
import Derived.LaidHandle
import Derived.Stop.Joined
import Derived.Lib.LaidIn
import Derived.Test.YtdcojpbgijkmgaaDoorCards
import Derived.Test.YtdcojpbgijkmgaaDoorTie
import Derived.SevenTiedAt
import Derived.SizedLaws
import Derived.Test.YtdcojpbgijkmgaaDoorU4
/-
  exciseref03.Prefix: the longest beginning that is a decimal text.
-/
namespace Go.Proofs.YtdcojpbgijkmgaaDoor
open Go.RowKit
/-- The document's way to the longest beginning, byte by byte. -/
def gx (s : ByteArray) (p i best : Nat) (o q : Bool) : Nat :=
  if _h : i < s.size then
    if (bt s i == 46) && !q && decide (p < i) then gx s p (i + 1) best o true
    else if !dgt (bt s i) || (!q && decide (p < i) && (bt s p == 48)) then best
    else gx s p (i + 1) (if (o || !(bt s i == 48)) || decide (p = 0) then i + 1 else best) (o || !(bt s i == 48)) q
  else best
theorem gx_out {s : ByteArray} {p i best : Nat} {o q : Bool} (h : ¬ i < s.size) : gx s p i best o q = best := by rw [gx, dif_neg h]
theorem gx_in {s : ByteArray} {p i best : Nat} {o q : Bool} (h : i < s.size) : gx s p i best o q = if (bt s i == 46) && !q && decide (p < i) then gx s p (i + 1) best o true
    else if !dgt (bt s i) || (!q && decide (p < i) && (bt s p == 48)) then best
    else gx s p (i + 1) (if (o || !(bt s i == 48)) || decide (p = 0) then i + 1 else best) (o || !(bt s i == 48)) q := by rw [gx, dif_pos h]
theorem gx_a (s : ByteArray) (p i best : Nat) (o : Bool) : gx s p i best o true = if dgt (bt s i) then (if o || !az s i || decide (p = 0) then re s i else best) else best := by
  by_cases h : i < s.size
  · rw [gx_in h]
    by_cases hd : dgt (bt s i) = true
    · simp only [Bool.not_true, Bool.and_false, Bool.false_and, Bool.false_eq_true, if_false, hd, Bool.or_self, if_true]
      rw [gx_a s p (i + 1), re_on hd, az_on hd]
      by_cases hd2 : dgt (bt s (i + 1)) = true
      · rw [if_pos hd2]
        cases o <;> cases (bt s i == 48) <;> cases az s (i + 1) <;> cases decide (p = 0) <;> rfl
      · have hd2' : dgt (bt s (i + 1)) = false := by simpa using hd2
        rw [if_neg hd2, re_end hd2', az_end hd2', Bool.and_true]
    · have hd' : dgt (bt s i) = false := by simpa using hd
      rw [hd']; simp
  · have hd : dgt (bt s i) = false := by rw [bt_out h]; rfl
    rw [gx_out h, hd]; rfl
theorem gx_b (s : ByteArray) (p i : Nat) (hp : (bt s p == 48) = false) (hi : p < i) : gx s p i i true false = ah s (re s i) false 0 := by
  by_cases h : i < s.size
  · rw [gx_in h]
    by_cases h46 : bt s i = 46
    · have hd : dgt (bt s i) = false := by rw [h46]; rfl
      rw [re_end hd, gx_a]
      unfold ah
      rw [h46, decide_eq_true hi]
      simp
    · have e46 : (bt s i == 46) = false := beq_eq_false_iff_ne.2 h46
      rw [e46, hp]
      by_cases hd : dgt (bt s i) = true
      · rw [hd]
        simp only [Bool.false_and, Bool.false_eq_true, if_false, Bool.not_true, Bool.and_false, Bool.or_self, Bool.true_or, if_true]
        rw [gx_b s p (i + 1) hp (by omega), re_on hd]
      · have hd' : dgt (bt s i) = false := by simpa using hd
        rw [hd', re_end hd']
        unfold ah
        rw [e46]
        simp
  · have hd : dgt (bt s i) = false := by rw [bt_out h]; rfl
    rw [gx_out h, re_end hd]
    unfold ah
    rw [bt_out h]
    simp
theorem gx_fi (s : ByteArray) (p : Nat) (b : Bool) (hb : b = !decide (p = 0)) : gx s p p 0 false false = fi s p b := by
  unfold fi
  by_cases h : p < s.size
  · rw [gx_in h]
    simp only [Nat.lt_irrefl, decide_false, Bool.and_false, Bool.false_eq_true, if_false, Bool.false_and, Bool.or_false, Bool.false_or]
    by_cases h48 : bt s p = 48
    · have hd : dgt (bt s p) = true := by rw [h48]; rfl
      rw [h48]
      simp only [beq_self_eq_true, if_true, Bool.not_true, Bool.false_or, dgt48, Bool.false_eq_true, if_false]
      unfold ah
      by_cases h1 : p + 1 < s.size
      · rw [gx_in h1]
        by_cases h46 : bt s (p + 1) = 46
        · rw [h46]
          simp only [beq_self_eq_true, Bool.not_false, Bool.and_self, Nat.lt_succ_self, decide_true, if_true, Bool.true_and]
          rw [gx_a]
          subst hb
          by_cases hp0 : p = 0 <;> cases dgt (bt s (p + 1 + 1)) <;> cases az s (p + 1 + 1) <;> simp [hp0]
        · have e46 : (bt s (p + 1) == 46) = false := beq_eq_false_iff_ne.2 h46
          rw [e46, h48]
          subst hb
          by_cases hp0 : p = 0 <;> simp [hp0]
      · rw [gx_out h1, bt_out h1]
        subst hb
        by_cases hp0 : p = 0 <;> simp [hp0]
    · have e48 : (bt s p == 48) = false := beq_eq_false_iff_ne.2 h48
      rw [e48]
      by_cases hd : dgt (bt s p) = true
      · rw [hd]
        simp only [Bool.not_true, Bool.false_eq_true, if_false, Bool.not_false, Bool.true_or, if_true]
        rw [gx_b s p (p + 1) e48 (by omega), re_on hd]
      · have hd' : dgt (bt s p) = false := by simpa using hd
        rw [hd']; simp
  · rw [gx_out h, bt_out h]
    simp [dgt]
theorem rprefix_n (s : ByteArray) (w : World) (hs : s.size ≤ maxLen) : Calls Tryd.prog 18 #[.string s] w fun e w' => e = .returned (.int .i64 (pfx s : Int)) ∧ Mo w w' := by
  replace hs : s.size ≤ 9223372036854775807 := by unfold maxLen at hs; exact hs
  refine w_enter 76 Tryd.func18 Tryd.ntmps18 rfl rfl ?_
  have M : Mo w w := Mo.refl _
  refine w_seq ?_
  refine w_reg ?_
  refine wl_mv (.const (.int .i64 (0))) (.int .i64 (0)) (fun _ => rfl) rfl rfl ?_
  refine w_nil ?_
  refine xn_then ?_
  refine w_seq ?_
  refine w_reg ?_
  refine wl_mv (.const (.int .i64 (0))) (.int .i64 (0)) (fun _ => rfl) rfl rfl ?_
  refine wl_mv (.const (.int .i64 (0))) (.int .i64 (0)) (fun _ => rfl) rfl rfl ?_
  refine w_nil ?_
  refine xn_then ?_
  refine w_cut (fun l w1 => ∃ (p : Nat) (b : Bool), look l 0 = .string s ∧ look l 3 = .int .i64 ((0 : Nat) : Int) ∧ look l 4 = .int .i64 (p : Int) ∧ p ≤ s.size ∧ b = (!decide (p = 0)) ∧ pfx s = fi s p b ∧ Mo w w1) ?_ ?_
  · skip
    clear M
    rintro l wa ⟨p, b, e0, e3, e4, hps, hb, hw0, M⟩
    rw [← gx_fi s p b hb] at hw0
    refine w_seq ?_
    refine w_reg ?_
    refine wl_mv (.const (.bool false)) (.bool false) (fun _ => rfl) rfl rfl ?_
    refine wl_mv (.const (.bool false)) (.bool false) (fun _ => rfl) rfl rfl ?_
    refine w_nil ?_
    refine xn_then ?_
    refine w_seq ?_
    refine w_reg ?_
    refine wl_mv (.tmp 4) (.int .i64 ((p : Nat) : Int)) (fun _ => rfl) e4 rfl ?_
    refine wl_mv (.tmp 21) (.int .i64 ((p : Nat) : Int)) (fun _ => rfl) rfl rfl ?_
    refine w_nil ?_
    refine xn_then ?_
    refine w_seq ?_
    refine w_block ?_
    refine w_loop (fun m l w1 => ∃ (i best : Nat) (o q : Bool), m = s.size - i ∧ look l 0 = .string s ∧ look l 3 = .int .i64 (best : Int) ∧ look l 4 = .int .i64 (i : Int) ∧ look l 5 = .bool o ∧ look l 6 = .bool q ∧ look l 7 = .int .i64 (p : Int) ∧ p ≤ i ∧ i ≤ s.size ∧ pfx s = gx s p i best o q ∧ Mo w w1) _ ⟨p, 0, false, false, rfl, e0, e3, e4, rfl, rfl, rfl, Nat.le_refl _, hps, hw0, M⟩ ?_
    clear M
    rintro m l wl ⟨i, best, o, q, rfl, e0, e3, e4, e5, e6, e7, hpi, his, hR, M⟩
    refine w_seq ?_
    refine w_seq ?_
    cases hf0 : decide (i < s.size) with
    | true =>
      have hf0p := of_decide_eq_true hf0
      refine w_reg ?_
      refine wl_mv (.tmp 4) (.int .i64 ((i : Nat) : Int)) (fun _ => rfl) e4 rfl ?_
      refine wl_mv (.tmp 0) (.string s) (fun _ => rfl) e0 rfl ?_
      refine wl_val (.int .i64 ((s.size : Nat) : Int)) (len_s _ _ s (by exact rfl) _ _ _ _ _ _) rfl ?_
      refine wl_bin (fun x y => do eqGuard .lss 3 (.tmp 22) (.tmp 24) x y; binOp .lss 3 x y) (.tmp 22) (.tmp 24) (.int .i64 ((i : Nat) : Int)) (.int .i64 ((s.size : Nat) : Int)) (.bool true) (fun _ => rfl) rfl rfl (ltN hf0 _ _ _) rfl ?_
      refine w_nil ?_
      refine xn_then ?_
      refine w_condT rfl ?_
      refine w_skip ?_
      refine xn_then ?_
      refine w_seq ?_
      refine w_block ?_
      refine w_seq ?_
      refine w_reg ?_
      refine wl_mv (.tmp 0) (.string s) (fun _ => rfl) e0 rfl ?_
      refine wl_mv (.tmp 4) (.int .i64 ((i : Nat) : Int)) (fun _ => rfl) e4 rfl ?_
      refine wl_bin (fun x y => Instr.index 9 x y) (.tmp 28) (.tmp 29) (.string s) (.int .i64 ((i : Nat) : Int)) (.int .u8 (bt s (i))) (fun _ => rfl) rfl rfl (idx_b (by omega) _) rfl ?_
      refine wl_mv (.tmp 30) (.int .u8 (bt s (i))) (fun _ => rfl) rfl rfl ?_
      refine w_nil ?_
      refine xn_then ?_
      refine w_seq ?_
      refine w_block ?_
      refine w_seq ?_
      cases hf1 : (bt s (i) == 46) with
      | true =>
        cases q with
        | true =>
          refine w_reg ?_
          refine wl_mv (.tmp 8) (.int .u8 (bt s (i))) (fun _ => rfl) rfl rfl ?_
          refine wl_bin (fun x y => do eqGuard .eql 5 (.tmp 32) (.const (.int .u8 (46))) x y; binOp .eql 5 x y) (.tmp 32) (.const (.int .u8 (46))) (.int .u8 (bt s (i))) (.int .u8 (46)) (.bool true) (fun _ => rfl) rfl rfl (eq5r hf1 _ _ _) rfl ?_
          refine wl_mv (.tmp 33) (.bool true) (fun _ => rfl) rfl rfl ?_
          refine wl_mv (.tmp 6) (.bool true) (fun _ => rfl) e6 rfl ?_
          refine wl_un (fun v => Op.unary .not v) (.tmp 35) (.bool true) (.bool false) (fun _ => rfl) rfl (by kernel_rfl) rfl ?_
          refine wl_pick (.tmp 34) (.tmp 36) (.const (.bool false)) true (.bool false) (fun _ => rfl) rfl rfl rfl ?_
          refine wl_mv (.tmp 37) (.bool false) (fun _ => rfl) rfl rfl ?_
          refine wl_skip rfl ?_
          refine wl_skip rfl ?_
          refine wl_skip rfl ?_
          refine wl_pick (.tmp 38) (.tmp 41) (.const (.bool false)) false (.bool false) (fun _ => rfl) rfl rfl rfl ?_
          refine wl_mv (.tmp 42) (.bool false) (fun _ => rfl) rfl rfl ?_
          refine w_nil ?_
          refine xn_then ?_
          refine w_condF rfl ?_
          refine w_seq ?_
          cases hf2 : dgt (bt s (i)) with
          | true =>
            refine w_reg ?_
            refine wl_mv (.tmp 8) (.int .u8 (bt s (i))) (fun _ => rfl) rfl rfl ?_
            refine wl_call 32 [(.tmp 44)] _ [.int .u8 (bt s (i))] (.bool true) rfl rfl (fun _ _ => by kernel_rfl) (digit_c hf2 _) rfl ?_
            intro w21 hq
            replace M := M.trans hq
            clear hq
            refine wl_un (fun v => Op.unary .not v) (.tmp 45) (.bool true) (.bool false) (fun _ => rfl) rfl (by kernel_rfl) rfl ?_
            refine wl_mv (.tmp 46) (.bool false) (fun _ => rfl) rfl rfl ?_
            refine wl_mv (.tmp 6) (.bool true) (fun _ => rfl) e6 rfl ?_
            refine wl_un (fun v => Op.unary .not v) (.tmp 48) (.bool true) (.bool false) (fun _ => rfl) rfl (by kernel_rfl) rfl ?_
            refine wl_mv (.tmp 49) (.bool false) (fun _ => rfl) rfl rfl ?_
            refine wl_skip rfl ?_
            refine wl_skip rfl ?_
            refine wl_skip rfl ?_
            refine wl_pick (.tmp 50) (.tmp 53) (.const (.bool false)) false (.bool false) (fun _ => rfl) rfl rfl rfl ?_
            refine wl_mv (.tmp 54) (.bool false) (fun _ => rfl) rfl rfl ?_
            refine wl_skip rfl ?_
            refine wl_skip rfl ?_
            refine wl_skip rfl ?_
            refine wl_skip rfl ?_
            refine wl_pick (.tmp 55) (.tmp 59) (.const (.bool false)) false (.bool false) (fun _ => rfl) rfl rfl rfl ?_
            refine wl_pick (.tmp 47) (.const (.bool true)) (.tmp 60) false (.bool false) (fun _ => rfl) rfl rfl rfl ?_
            refine wl_mv (.tmp 61) (.bool false) (fun _ => rfl) rfl rfl ?_
            refine w_nil ?_
            refine xn_then ?_
            refine w_condF rfl ?_
            refine w_skip ?_
            refine xn_blk ?_
            refine xn_then ?_
            refine w_seq ?_
            cases o with
            | true =>
              refine w_reg ?_
              refine wl_mv (.tmp 5) (.bool true) (fun _ => rfl) e5 rfl ?_
              refine wl_mv (.tmp 63) (.bool true) (fun _ => rfl) rfl rfl ?_
              refine wl_skip rfl ?_
              refine wl_skip rfl ?_
              refine wl_pick (.tmp 64) (.const (.bool true)) (.tmp 66) true (.bool true) (fun _ => rfl) rfl rfl rfl ?_
              refine wl_mv (.tmp 67) (.bool true) (fun _ => rfl) rfl rfl ?_
              refine w_nil ?_
              refine xn_then ?_
              refine w_seq ?_
              refine w_reg ?_
              refine wl_mv (.tmp 5) (.bool true) (fun _ => rfl) rfl rfl ?_
              refine wl_mv (.tmp 68) (.bool true) (fun _ => rfl) rfl rfl ?_
              refine wl_skip rfl ?_
              refine wl_skip rfl ?_
              refine wl_pick (.tmp 69) (.const (.bool true)) (.tmp 71) true (.bool true) (fun _ => rfl) rfl rfl rfl ?_
              refine w_nil ?_
              refine xn_then ?_
              refine w_condT rfl ?_
              refine w_reg ?_
              refine wl_mv (.tmp 4) (.int .i64 ((i : Nat) : Int)) (fun _ => rfl) e4 rfl ?_
              refine wl_bin (fun x y => do eqGuard .add 3 (.tmp 73) (.const (.int .i64 (1))) x y; binOp .add 3 x y) (.tmp 73) (.const (.int .i64 (1))) (.int .i64 ((i : Nat) : Int)) (.int .i64 (1)) (.int .i64 ((i + 1 : Nat) : Int)) (fun _ => rfl) rfl rfl (add1r (k := i) (by omega) _ _ _) rfl ?_
              refine wl_mv (.tmp 74) (.int .i64 ((i + 1 : Nat) : Int)) (fun _ => rfl) rfl rfl ?_
              refine w_nil ?_
              refine xn_blk ?_
              refine xn_then ?_
              refine w_reg ?_
              refine wl_mv (.tmp 4) (.int .i64 ((i : Nat) : Int)) (fun _ => rfl) e4 rfl ?_
              refine wl_bin (fun x y => do eqGuard .add 3 (.tmp 26) (.const (.int .i64 (1))) x y; binOp .add 3 x y) (.tmp 26) (.const (.int .i64 (1))) (.int .i64 ((i : Nat) : Int)) (.int .i64 (1)) (.int .i64 ((i + 1 : Nat) : Int)) (fun _ => rfl) rfl rfl (add1r (k := i) (by omega) _ _ _) rfl ?_
              refine wl_mv (.tmp 27) (.int .i64 ((i + 1 : Nat) : Int)) (fun _ => rfl) rfl rfl ?_
              refine w_nil ?_
              exact xn_loop (s.size - (i + 1)) (by omega) ⟨i + 1, i + 1, true, true, rfl, e0, rfl, rfl, rfl, e6, e7, by omega, by omega, by rw [hR, gx_in (of_decide_eq_true hf0)]; simp [hf1, hf2], M⟩
            | false =>
              cases hf3 : (bt s (i) == 48) with
              | true =>
                refine w_reg ?_
                refine wl_mv (.tmp 5) (.bool false) (fun _ => rfl) e5 rfl ?_
                refine wl_mv (.tmp 63) (.bool false) (fun _ => rfl) rfl rfl ?_
                refine wl_mv (.tmp 8) (.int .u8 (bt s (i))) (fun _ => rfl) rfl rfl ?_
                refine wl_bin (fun x y => do eqGuard .neq 5 (.tmp 65) (.const (.int .u8 (48))) x y; binOp .neq 5 x y) (.tmp 65) (.const (.int .u8 (48))) (.int .u8 (bt s (i))) (.int .u8 (48)) (.bool false) (fun _ => rfl) rfl rfl (ne5r hf3 _ _ _) rfl ?_
                refine wl_pick (.tmp 64) (.const (.bool true)) (.tmp 66) false (.bool false) (fun _ => rfl) rfl rfl rfl ?_
                refine wl_mv (.tmp 67) (.bool false) (fun _ => rfl) rfl rfl ?_
                refine w_nil ?_
                refine xn_then ?_
                refine w_seq ?_
                cases hf4 : decide (p = 0) with
                | true =>
                  have hf4p := of_decide_eq_true hf4
                  refine w_reg ?_
                  refine wl_mv (.tmp 5) (.bool false) (fun _ => rfl) rfl rfl ?_
                  refine wl_mv (.tmp 68) (.bool false) (fun _ => rfl) rfl rfl ?_
                  refine wl_mv (.tmp 7) (.int .i64 ((p : Nat) : Int)) (fun _ => rfl) e7 rfl ?_
                  refine wl_bin (fun x y => do eqGuard .eql 3 (.tmp 70) (.const (.int .i64 (0))) x y; binOp .eql 3 x y) (.tmp 70) (.const (.int .i64 (0))) (.int .i64 ((p : Nat) : Int)) (.int .i64 (0)) (.bool true) (fun _ => rfl) rfl rfl (eqN hf4 _ _ _) rfl ?_
                  refine wl_pick (.tmp 69) (.const (.bool true)) (.tmp 71) false (.bool true) (fun _ => rfl) rfl rfl rfl ?_
                  refine w_nil ?_
                  refine xn_then ?_
                  refine w_condT rfl ?_
                  refine w_reg ?_
                  refine wl_mv (.tmp 4) (.int .i64 ((i : Nat) : Int)) (fun _ => rfl) e4 rfl ?_
                  refine wl_bin (fun x y => do eqGuard .add 3 (.tmp 73) (.const (.int .i64 (1))) x y; binOp .add 3 x y) (.tmp 73) (.const (.int .i64 (1))) (.int .i64 ((i : Nat) : Int)) (.int .i64 (1)) (.int .i64 ((i + 1 : Nat) : Int)) (fun _ => rfl) rfl rfl (add1r (k := i) (by omega) _ _ _) rfl ?_
                  refine wl_mv (.tmp 74) (.int .i64 ((i + 1 : Nat) : Int)) (fun _ => rfl) rfl rfl ?_
                  refine w_nil ?_
                  refine xn_blk ?_
                  refine xn_then ?_
                  refine w_reg ?_
                  refine wl_mv (.tmp 4) (.int .i64 ((i : Nat) : Int)) (fun _ => rfl) e4 rfl ?_
                  refine wl_bin (fun x y => do eqGuard .add 3 (.tmp 26) (.const (.int .i64 (1))) x y; binOp .add 3 x y) (.tmp 26) (.const (.int .i64 (1))) (.int .i64 ((i : Nat) : Int)) (.int .i64 (1)) (.int .i64 ((i + 1 : Nat) : Int)) (fun _ => rfl) rfl rfl (add1r (k := i) (by omega) _ _ _) rfl ?_
                  refine wl_mv (.tmp 27) (.int .i64 ((i + 1 : Nat) : Int)) (fun _ => rfl) rfl rfl ?_
                  refine w_nil ?_
                  exact xn_loop (s.size - (i + 1)) (by omega) ⟨i + 1, i + 1, false, true, rfl, e0, rfl, rfl, rfl, e6, e7, by omega, by omega, by rw [hR, gx_in (of_decide_eq_true hf0)]; simp [hf1, hf2, hf3, hf4], M⟩
                | false =>
                  have hf4p := of_decide_eq_false hf4
                  refine w_reg ?_
                  refine wl_mv (.tmp 5) (.bool false) (fun _ => rfl) rfl rfl ?_
                  refine wl_mv (.tmp 68) (.bool false) (fun _ => rfl) rfl rfl ?_
                  refine wl_mv (.tmp 7) (.int .i64 ((p : Nat) : Int)) (fun _ => rfl) e7 rfl ?_
                  refine wl_bin (fun x y => do eqGuard .eql 3 (.tmp 70) (.const (.int .i64 (0))) x y; binOp .eql 3 x y) (.tmp 70) (.const (.int .i64 (0))) (.int .i64 ((p : Nat) : Int)) (.int .i64 (0)) (.bool false) (fun _ => rfl) rfl rfl (eqN hf4 _ _ _) rfl ?_
                  refine wl_pick (.tmp 69) (.const (.bool true)) (.tmp 71) false (.bool false) (fun _ => rfl) rfl rfl rfl ?_
                  refine w_nil ?_
                  refine xn_then ?_
                  refine w_condF rfl ?_
                  refine w_skip ?_
                  refine xn_blk ?_
                  refine xn_then ?_
                  refine w_reg ?_
                  refine wl_mv (.tmp 4) (.int .i64 ((i : Nat) : Int)) (fun _ => rfl) e4 rfl ?_
                  refine wl_bin (fun x y => do eqGuard .add 3 (.tmp 26) (.const (.int .i64 (1))) x y; binOp .add 3 x y) (.tmp 26) (.const (.int .i64 (1))) (.int .i64 ((i : Nat) : Int)) (.int .i64 (1)) (.int .i64 ((i + 1 : Nat) : Int)) (fun _ => rfl) rfl rfl (add1r (k := i) (by omega) _ _ _) rfl ?_
                  refine wl_mv (.tmp 27) (.int .i64 ((i + 1 : Nat) : Int)) (fun _ => rfl) rfl rfl ?_
                  refine w_nil ?_
                  exact xn_loop (s.size - (i + 1)) (by omega) ⟨i + 1, best, false, true, rfl, e0, e3, rfl, rfl, e6, e7, by omega, by omega, by rw [hR, gx_in (of_decide_eq_true hf0)]; simp [hf1, hf2, hf3, hf4], M⟩
              | false =>
                refine w_reg ?_
                refine wl_mv (.tmp 5) (.bool false) (fun _ => rfl) e5 rfl ?_
                refine wl_mv (.tmp 63) (.bool false) (fun _ => rfl) rfl rfl ?_
                refine wl_mv (.tmp 8) (.int .u8 (bt s (i))) (fun _ => rfl) rfl rfl ?_
                refine wl_bin (fun x y => do eqGuard .neq 5 (.tmp 65) (.const (.int .u8 (48))) x y; binOp .neq 5 x y) (.tmp 65) (.const (.int .u8 (48))) (.int .u8 (bt s (i))) (.int .u8 (48)) (.bool true) (fun _ => rfl) rfl rfl (ne5r hf3 _ _ _) rfl ?_
                refine wl_pick (.tmp 64) (.const (.bool true)) (.tmp 66) false (.bool true) (fun _ => rfl) rfl rfl rfl ?_
                refine wl_mv (.tmp 67) (.bool true) (fun _ => rfl) rfl rfl ?_
                refine w_nil ?_
                refine xn_then ?_
                refine w_seq ?_
                refine w_reg ?_
                refine wl_mv (.tmp 5) (.bool true) (fun _ => rfl) rfl rfl ?_
                refine wl_mv (.tmp 68) (.bool true) (fun _ => rfl) rfl rfl ?_
                refine wl_skip rfl ?_
                refine wl_skip rfl ?_
                refine wl_pick (.tmp 69) (.const (.bool true)) (.tmp 71) true (.bool true) (fun _ => rfl) rfl rfl rfl ?_
                refine w_nil ?_
                refine xn_then ?_
                refine w_condT rfl ?_
                refine w_reg ?_
                refine wl_mv (.tmp 4) (.int .i64 ((i : Nat) : Int)) (fun _ => rfl) e4 rfl ?_
                refine wl_bin (fun x y => do eqGuard .add 3 (.tmp 73) (.const (.int .i64 (1))) x y; binOp .add 3 x y) (.tmp 73) (.const (.int .i64 (1))) (.int .i64 ((i : Nat) : Int)) (.int .i64 (1)) (.int .i64 ((i + 1 : Nat) : Int)) (fun _ => rfl) rfl rfl (add1r (k := i) (by omega) _ _ _) rfl ?_
                refine wl_mv (.tmp 74) (.int .i64 ((i + 1 : Nat) : Int)) (fun _ => rfl) rfl rfl ?_
                refine w_nil ?_
                refine xn_blk ?_
                refine xn_then ?_
                refine w_reg ?_
                refine wl_mv (.tmp 4) (.int .i64 ((i : Nat) : Int)) (fun _ => rfl) e4 rfl ?_
                refine wl_bin (fun x y => do eqGuard .add 3 (.tmp 26) (.const (.int .i64 (1))) x y; binOp .add 3 x y) (.tmp 26) (.const (.int .i64 (1))) (.int .i64 ((i : Nat) : Int)) (.int .i64 (1)) (.int .i64 ((i + 1 : Nat) : Int)) (fun _ => rfl) rfl rfl (add1r (k := i) (by omega) _ _ _) rfl ?_
                refine wl_mv (.tmp 27) (.int .i64 ((i + 1 : Nat) : Int)) (fun _ => rfl) rfl rfl ?_
                refine w_nil ?_
                exact xn_loop (s.size - (i + 1)) (by omega) ⟨i + 1, i + 1, true, true, rfl, e0, rfl, rfl, rfl, e6, e7, by omega, by omega, by rw [hR, gx_in (of_decide_eq_true hf0)]; simp [hf1, hf2, hf3], M⟩
          | false =>
            refine w_reg ?_
            refine wl_mv (.tmp 8) (.int .u8 (bt s (i))) (fun _ => rfl) rfl rfl ?_
            refine wl_call 32 [(.tmp 44)] _ [.int .u8 (bt s (i))] (.bool false) rfl rfl (fun _ _ => by kernel_rfl) (digit_c hf2 _) rfl ?_
            intro w21 hq
            replace M := M.trans hq
            clear hq
            refine wl_un (fun v => Op.unary .not v) (.tmp 45) (.bool false) (.bool true) (fun _ => rfl) rfl (by kernel_rfl) rfl ?_
            refine wl_mv (.tmp 46) (.bool true) (fun _ => rfl) rfl rfl ?_
            refine wl_skip rfl ?_
            refine wl_skip rfl ?_
            refine wl_skip rfl ?_
            refine wl_skip rfl ?_
            refine wl_skip rfl ?_
            refine wl_skip rfl ?_
            refine wl_skip rfl ?_
            refine wl_skip rfl ?_
            refine wl_skip rfl ?_
            refine wl_skip rfl ?_
            refine wl_skip rfl ?_
            refine wl_skip rfl ?_
            refine wl_skip rfl ?_
            refine wl_pick (.tmp 47) (.const (.bool true)) (.tmp 60) true (.bool true) (fun _ => rfl) rfl rfl rfl ?_
            refine wl_mv (.tmp 61) (.bool true) (fun _ => rfl) rfl rfl ?_
            refine w_nil ?_
            refine xn_then ?_
            refine w_condT rfl ?_
            refine w_seq ?_
            refine w_reg ?_
            refine wl_mv (.tmp 3) (.int .i64 ((best : Nat) : Int)) (fun _ => rfl) e3 rfl ?_
            refine wl_mv (.tmp 62) (.int .i64 ((best : Nat) : Int)) (fun _ => rfl) rfl rfl ?_
            refine w_nil ?_
            refine xn_then ?_
            refine w_ret ?_
            refine xr_blk ?_
            refine xr_then ?_
            refine xr_blk ?_
            refine xr_then ?_
            refine xr_then ?_
            refine xr_blk ?_
            refine xr_then ?_
            have hfin : pfx s = best := by rw [hR, gx_in (of_decide_eq_true hf0)]; simp [hf1, hf2]
            exact w_ret1 _ (.int .i64 ((best : Nat) : Int)) rfl rfl ⟨by rw [hfin], M⟩
        | false =>
          cases hf2 : decide (p < i) with
          | true =>
            have hf2p := of_decide_eq_true hf2
            refine w_reg ?_
            refine wl_mv (.tmp 8) (.int .u8 (bt s (i))) (fun _ => rfl) rfl rfl ?_
            refine wl_bin (fun x y => do eqGuard .eql 5 (.tmp 32) (.const (.int .u8 (46))) x y; binOp .eql 5 x y) (.tmp 32) (.const (.int .u8 (46))) (.int .u8 (bt s (i))) (.int .u8 (46)) (.bool true) (fun _ => rfl) rfl rfl (eq5r hf1 _ _ _) rfl ?_
            refine wl_mv (.tmp 33) (.bool true) (fun _ => rfl) rfl rfl ?_
            refine wl_mv (.tmp 6) (.bool false) (fun _ => rfl) e6 rfl ?_
            refine wl_un (fun v => Op.unary .not v) (.tmp 35) (.bool false) (.bool true) (fun _ => rfl) rfl (by kernel_rfl) rfl ?_
            refine wl_pick (.tmp 34) (.tmp 36) (.const (.bool false)) true (.bool true) (fun _ => rfl) rfl rfl rfl ?_
            refine wl_mv (.tmp 37) (.bool true) (fun _ => rfl) rfl rfl ?_
            refine wl_mv (.tmp 4) (.int .i64 ((i : Nat) : Int)) (fun _ => rfl) e4 rfl ?_
            refine wl_mv (.tmp 7) (.int .i64 ((p : Nat) : Int)) (fun _ => rfl) e7 rfl ?_
            refine wl_bin (fun x y => do eqGuard .gtr 3 (.tmp 39) (.tmp 40) x y; binOp .gtr 3 x y) (.tmp 39) (.tmp 40) (.int .i64 ((i : Nat) : Int)) (.int .i64 ((p : Nat) : Int)) (.bool true) (fun _ => rfl) rfl rfl (gtN hf2 _ _ _) rfl ?_
            refine wl_pick (.tmp 38) (.tmp 41) (.const (.bool false)) true (.bool true) (fun _ => rfl) rfl rfl rfl ?_
            refine wl_mv (.tmp 42) (.bool true) (fun _ => rfl) rfl rfl ?_
            refine w_nil ?_
            refine xn_then ?_
            refine w_condT rfl ?_
            refine w_seq ?_
            refine w_reg ?_
            refine wl_mv (.const (.bool true)) (.bool true) (fun _ => rfl) rfl rfl ?_
            refine w_nil ?_
            refine xn_then ?_
            refine w_exit ?_
            refine xx_out rfl ?_
            refine xx_then ?_
            refine xx_blk ?_
            refine xn_then ?_
            refine w_reg ?_
            refine wl_mv (.tmp 4) (.int .i64 ((i : Nat) : Int)) (fun _ => rfl) e4 rfl ?_
            refine wl_bin (fun x y => do eqGuard .add 3 (.tmp 26) (.const (.int .i64 (1))) x y; binOp .add 3 x y) (.tmp 26) (.const (.int .i64 (1))) (.int .i64 ((i : Nat) : Int)) (.int .i64 (1)) (.int .i64 ((i + 1 : Nat) : Int)) (fun _ => rfl) rfl rfl (add1r (k := i) (by omega) _ _ _) rfl ?_
            refine wl_mv (.tmp 27) (.int .i64 ((i + 1 : Nat) : Int)) (fun _ => rfl) rfl rfl ?_
            refine w_nil ?_
            exact xn_loop (s.size - (i + 1)) (by omega) ⟨i + 1, best, o, true, rfl, e0, e3, rfl, e5, rfl, e7, by omega, by omega, by rw [hR, gx_in (of_decide_eq_true hf0)]; simp [hf1, hf2p], M⟩
          | false =>
            have hf2p := of_decide_eq_false hf2
            refine w_reg ?_
            refine wl_mv (.tmp 8) (.int .u8 (bt s (i))) (fun _ => rfl) rfl rfl ?_
            refine wl_bin (fun x y => do eqGuard .eql 5 (.tmp 32) (.const (.int .u8 (46))) x y; binOp .eql 5 x y) (.tmp 32) (.const (.int .u8 (46))) (.int .u8 (bt s (i))) (.int .u8 (46)) (.bool true) (fun _ => rfl) rfl rfl (eq5r hf1 _ _ _) rfl ?_
            refine wl_mv (.tmp 33) (.bool true) (fun _ => rfl) rfl rfl ?_
            refine wl_mv (.tmp 6) (.bool false) (fun _ => rfl) e6 rfl ?_
            refine wl_un (fun v => Op.unary .not v) (.tmp 35) (.bool false) (.bool true) (fun _ => rfl) rfl (by kernel_rfl) rfl ?_
            refine wl_pick (.tmp 34) (.tmp 36) (.const (.bool false)) true (.bool true) (fun _ => rfl) rfl rfl rfl ?_
            refine wl_mv (.tmp 37) (.bool true) (fun _ => rfl) rfl rfl ?_
            refine wl_mv (.tmp 4) (.int .i64 ((i : Nat) : Int)) (fun _ => rfl) e4 rfl ?_
            refine wl_mv (.tmp 7) (.int .i64 ((p : Nat) : Int)) (fun _ => rfl) e7 rfl ?_
            refine wl_bin (fun x y => do eqGuard .gtr 3 (.tmp 39) (.tmp 40) x y; binOp .gtr 3 x y) (.tmp 39) (.tmp 40) (.int .i64 ((i : Nat) : Int)) (.int .i64 ((p : Nat) : Int)) (.bool false) (fun _ => rfl) rfl rfl (gtN hf2 _ _ _) rfl ?_
            refine wl_pick (.tmp 38) (.tmp 41) (.const (.bool false)) true (.bool false) (fun _ => rfl) rfl rfl rfl ?_
            refine wl_mv (.tmp 42) (.bool false) (fun _ => rfl) rfl rfl ?_
            refine w_nil ?_
            refine xn_then ?_
            refine w_condF rfl ?_
            refine w_seq ?_
            cases hf3 : dgt (bt s (i)) with
            | true =>
              refine w_reg ?_
              refine wl_mv (.tmp 8) (.int .u8 (bt s (i))) (fun _ => rfl) rfl rfl ?_
              refine wl_call 32 [(.tmp 44)] _ [.int .u8 (bt s (i))] (.bool true) rfl rfl (fun _ _ => by kernel_rfl) (digit_c hf3 _) rfl ?_
              intro w21 hq
              replace M := M.trans hq
              clear hq
              refine wl_un (fun v => Op.unary .not v) (.tmp 45) (.bool true) (.bool false) (fun _ => rfl) rfl (by kernel_rfl) rfl ?_
              refine wl_mv (.tmp 46) (.bool false) (fun _ => rfl) rfl rfl ?_
              refine wl_mv (.tmp 6) (.bool false) (fun _ => rfl) e6 rfl ?_
              refine wl_un (fun v => Op.unary .not v) (.tmp 48) (.bool false) (.bool true) (fun _ => rfl) rfl (by kernel_rfl) rfl ?_
              refine wl_mv (.tmp 49) (.bool true) (fun _ => rfl) rfl rfl ?_
              refine wl_mv (.tmp 4) (.int .i64 ((i : Nat) : Int)) (fun _ => rfl) e4 rfl ?_
              refine wl_mv (.tmp 7) (.int .i64 ((p : Nat) : Int)) (fun _ => rfl) e7 rfl ?_
              refine wl_bin (fun x y => do eqGuard .gtr 3 (.tmp 51) (.tmp 52) x y; binOp .gtr 3 x y) (.tmp 51) (.tmp 52) (.int .i64 ((i : Nat) : Int)) (.int .i64 ((p : Nat) : Int)) (.bool false) (fun _ => rfl) rfl rfl (gtN hf2 _ _ _) rfl ?_
              refine wl_pick (.tmp 50) (.tmp 53) (.const (.bool false)) true (.bool false) (fun _ => rfl) rfl rfl rfl ?_
              refine wl_mv (.tmp 54) (.bool false) (fun _ => rfl) rfl rfl ?_
              refine wl_skip rfl ?_
              refine wl_skip rfl ?_
              refine wl_skip rfl ?_
              refine wl_skip rfl ?_
              refine wl_pick (.tmp 55) (.tmp 59) (.const (.bool false)) false (.bool false) (fun _ => rfl) rfl rfl rfl ?_
              refine wl_pick (.tmp 47) (.const (.bool true)) (.tmp 60) false (.bool false) (fun _ => rfl) rfl rfl rfl ?_
              refine wl_mv (.tmp 61) (.bool false) (fun _ => rfl) rfl rfl ?_
              refine w_nil ?_
              refine xn_then ?_
              refine w_condF rfl ?_
              refine w_skip ?_
              refine xn_blk ?_
              refine xn_then ?_
              refine w_seq ?_
              cases o with
              | true =>
                refine w_reg ?_
                refine wl_mv (.tmp 5) (.bool true) (fun _ => rfl) e5 rfl ?_
                refine wl_mv (.tmp 63) (.bool true) (fun _ => rfl) rfl rfl ?_
                refine wl_skip rfl ?_
                refine wl_skip rfl ?_
                refine wl_pick (.tmp 64) (.const (.bool true)) (.tmp 66) true (.bool true) (fun _ => rfl) rfl rfl rfl ?_
                refine wl_mv (.tmp 67) (.bool true) (fun _ => rfl) rfl rfl ?_
                refine w_nil ?_
                refine xn_then ?_
                refine w_seq ?_
                refine w_reg ?_
                refine wl_mv (.tmp 5) (.bool true) (fun _ => rfl) rfl rfl ?_
                refine wl_mv (.tmp 68) (.bool true) (fun _ => rfl) rfl rfl ?_
                refine wl_skip rfl ?_
                refine wl_skip rfl ?_
                refine wl_pick (.tmp 69) (.const (.bool true)) (.tmp 71) true (.bool true) (fun _ => rfl) rfl rfl rfl ?_
                refine w_nil ?_
                refine xn_then ?_
                refine w_condT rfl ?_
                refine w_reg ?_
                refine wl_mv (.tmp 4) (.int .i64 ((i : Nat) : Int)) (fun _ => rfl) e4 rfl ?_
                refine wl_bin (fun x y => do eqGuard .add 3 (.tmp 73) (.const (.int .i64 (1))) x y; binOp .add 3 x y) (.tmp 73) (.const (.int .i64 (1))) (.int .i64 ((i : Nat) : Int)) (.int .i64 (1)) (.int .i64 ((i + 1 : Nat) : Int)) (fun _ => rfl) rfl rfl (add1r (k := i) (by omega) _ _ _) rfl ?_
                refine wl_mv (.tmp 74) (.int .i64 ((i + 1 : Nat) : Int)) (fun _ => rfl) rfl rfl ?_
                refine w_nil ?_
                refine xn_blk ?_
                refine xn_then ?_
                refine w_reg ?_
                refine wl_mv (.tmp 4) (.int .i64 ((i : Nat) : Int)) (fun _ => rfl) e4 rfl ?_
                refine wl_bin (fun x y => do eqGuard .add 3 (.tmp 26) (.const (.int .i64 (1))) x y; binOp .add 3 x y) (.tmp 26) (.const (.int .i64 (1))) (.int .i64 ((i : Nat) : Int)) (.int .i64 (1)) (.int .i64 ((i + 1 : Nat) : Int)) (fun _ => rfl) rfl rfl (add1r (k := i) (by omega) _ _ _) rfl ?_
                refine wl_mv (.tmp 27) (.int .i64 ((i + 1 : Nat) : Int)) (fun _ => rfl) rfl rfl ?_
                refine w_nil ?_
                exact xn_loop (s.size - (i + 1)) (by omega) ⟨i + 1, i + 1, true, false, rfl, e0, rfl, rfl, rfl, e6, e7, by omega, by omega, by rw [hR, gx_in (of_decide_eq_true hf0)]; simp [hf1, hf2p, hf3], M⟩
              | false =>
                cases hf4 : (bt s (i) == 48) with
                | true =>
                  refine w_reg ?_
                  refine wl_mv (.tmp 5) (.bool false) (fun _ => rfl) e5 rfl ?_
                  refine wl_mv (.tmp 63) (.bool false) (fun _ => rfl) rfl rfl ?_
                  refine wl_mv (.tmp 8) (.int .u8 (bt s (i))) (fun _ => rfl) rfl rfl ?_
                  refine wl_bin (fun x y => do eqGuard .neq 5 (.tmp 65) (.const (.int .u8 (48))) x y; binOp .neq 5 x y) (.tmp 65) (.const (.int .u8 (48))) (.int .u8 (bt s (i))) (.int .u8 (48)) (.bool false) (fun _ => rfl) rfl rfl (ne5r hf4 _ _ _) rfl ?_
                  refine wl_pick (.tmp 64) (.const (.bool true)) (.tmp 66) false (.bool false) (fun _ => rfl) rfl rfl rfl ?_
                  refine wl_mv (.tmp 67) (.bool false) (fun _ => rfl) rfl rfl ?_
                  refine w_nil ?_
                  refine xn_then ?_
                  refine w_seq ?_
                  cases hf5 : decide (p = 0) with
                  | true =>
                    have hf5p := of_decide_eq_true hf5
                    refine w_reg ?_
                    refine wl_mv (.tmp 5) (.bool false) (fun _ => rfl) rfl rfl ?_
                    refine wl_mv (.tmp 68) (.bool false) (fun _ => rfl) rfl rfl ?_
                    refine wl_mv (.tmp 7) (.int .i64 ((p : Nat) : Int)) (fun _ => rfl) e7 rfl ?_
                    refine wl_bin (fun x y => do eqGuard .eql 3 (.tmp 70) (.const (.int .i64 (0))) x y; binOp .eql 3 x y) (.tmp 70) (.const (.int .i64 (0))) (.int .i64 ((p : Nat) : Int)) (.int .i64 (0)) (.bool true) (fun _ => rfl) rfl rfl (eqN hf5 _ _ _) rfl ?_
                    refine wl_pick (.tmp 69) (.const (.bool true)) (.tmp 71) false (.bool true) (fun _ => rfl) rfl rfl rfl ?_
                    refine w_nil ?_
                    refine xn_then ?_
                    refine w_condT rfl ?_
                    refine w_reg ?_
                    refine wl_mv (.tmp 4) (.int .i64 ((i : Nat) : Int)) (fun _ => rfl) e4 rfl ?_
                    refine wl_bin (fun x y => do eqGuard .add 3 (.tmp 73) (.const (.int .i64 (1))) x y; binOp .add 3 x y) (.tmp 73) (.const (.int .i64 (1))) (.int .i64 ((i : Nat) : Int)) (.int .i64 (1)) (.int .i64 ((i + 1 : Nat) : Int)) (fun _ => rfl) rfl rfl (add1r (k := i) (by omega) _ _ _) rfl ?_
                    refine wl_mv (.tmp 74) (.int .i64 ((i + 1 : Nat) : Int)) (fun _ => rfl) rfl rfl ?_
                    refine w_nil ?_
                    refine xn_blk ?_
                    refine xn_then ?_
                    refine w_reg ?_
                    refine wl_mv (.tmp 4) (.int .i64 ((i : Nat) : Int)) (fun _ => rfl) e4 rfl ?_
                    refine wl_bin (fun x y => do eqGuard .add 3 (.tmp 26) (.const (.int .i64 (1))) x y; binOp .add 3 x y) (.tmp 26) (.const (.int .i64 (1))) (.int .i64 ((i : Nat) : Int)) (.int .i64 (1)) (.int .i64 ((i + 1 : Nat) : Int)) (fun _ => rfl) rfl rfl (add1r (k := i) (by omega) _ _ _) rfl ?_
                    refine wl_mv (.tmp 27) (.int .i64 ((i + 1 : Nat) : Int)) (fun _ => rfl) rfl rfl ?_
                    refine w_nil ?_
                    exact xn_loop (s.size - (i + 1)) (by omega) ⟨i + 1, i + 1, false, false, rfl, e0, rfl, rfl, rfl, e6, e7, by omega, by omega, by rw [hR, gx_in (of_decide_eq_true hf0)]; simp [hf1, hf2p, hf3, hf4, hf5], M⟩
                  | false =>
                    have hf5p := of_decide_eq_false hf5
                    refine w_reg ?_
                    refine wl_mv (.tmp 5) (.bool false) (fun _ => rfl) rfl rfl ?_
                    refine wl_mv (.tmp 68) (.bool false) (fun _ => rfl) rfl rfl ?_
                    refine wl_mv (.tmp 7) (.int .i64 ((p : Nat) : Int)) (fun _ => rfl) e7 rfl ?_
                    refine wl_bin (fun x y => do eqGuard .eql 3 (.tmp 70) (.const (.int .i64 (0))) x y; binOp .eql 3 x y) (.tmp 70) (.const (.int .i64 (0))) (.int .i64 ((p : Nat) : Int)) (.int .i64 (0)) (.bool false) (fun _ => rfl) rfl rfl (eqN hf5 _ _ _) rfl ?_
                    refine wl_pick (.tmp 69) (.const (.bool true)) (.tmp 71) false (.bool false) (fun _ => rfl) rfl rfl rfl ?_
                    refine w_nil ?_
                    refine xn_then ?_
                    refine w_condF rfl ?_
                    refine w_skip ?_
                    refine xn_blk ?_
                    refine xn_then ?_
                    refine w_reg ?_
                    refine wl_mv (.tmp 4) (.int .i64 ((i : Nat) : Int)) (fun _ => rfl) e4 rfl ?_
                    refine wl_bin (fun x y => do eqGuard .add 3 (.tmp 26) (.const (.int .i64 (1))) x y; binOp .add 3 x y) (.tmp 26) (.const (.int .i64 (1))) (.int .i64 ((i : Nat) : Int)) (.int .i64 (1)) (.int .i64 ((i + 1 : Nat) : Int)) (fun _ => rfl) rfl rfl (add1r (k := i) (by omega) _ _ _) rfl ?_
                    refine wl_mv (.tmp 27) (.int .i64 ((i + 1 : Nat) : Int)) (fun _ => rfl) rfl rfl ?_
                    refine w_nil ?_
                    exact xn_loop (s.size - (i + 1)) (by omega) ⟨i + 1, best, false, false, rfl, e0, e3, rfl, rfl, e6, e7, by omega, by omega, by rw [hR, gx_in (of_decide_eq_true hf0)]; simp [hf1, hf2p, hf3, hf4, hf5], M⟩
                | false =>
                  refine w_reg ?_
                  refine wl_mv (.tmp 5) (.bool false) (fun _ => rfl) e5 rfl ?_
                  refine wl_mv (.tmp 63) (.bool false) (fun _ => rfl) rfl rfl ?_
                  refine wl_mv (.tmp 8) (.int .u8 (bt s (i))) (fun _ => rfl) rfl rfl ?_
                  refine wl_bin (fun x y => do eqGuard .neq 5 (.tmp 65) (.const (.int .u8 (48))) x y; binOp .neq 5 x y) (.tmp 65) (.const (.int .u8 (48))) (.int .u8 (bt s (i))) (.int .u8 (48)) (.bool true) (fun _ => rfl) rfl rfl (ne5r hf4 _ _ _) rfl ?_
                  refine wl_pick (.tmp 64) (.const (.bool true)) (.tmp 66) false (.bool true) (fun _ => rfl) rfl rfl rfl ?_
                  refine wl_mv (.tmp 67) (.bool true) (fun _ => rfl) rfl rfl ?_
                  refine w_nil ?_
                  refine xn_then ?_
                  refine w_seq ?_
                  refine w_reg ?_
                  refine wl_mv (.tmp 5) (.bool true) (fun _ => rfl) rfl rfl ?_
                  refine wl_mv (.tmp 68) (.bool true) (fun _ => rfl) rfl rfl ?_
                  refine wl_skip rfl ?_
                  refine wl_skip rfl ?_
                  refine wl_pick (.tmp 69) (.const (.bool true)) (.tmp 71) true (.bool true) (fun _ => rfl) rfl rfl rfl ?_
                  refine w_nil ?_
                  refine xn_then ?_
                  refine w_condT rfl ?_
                  refine w_reg ?_
                  refine wl_mv (.tmp 4) (.int .i64 ((i : Nat) : Int)) (fun _ => rfl) e4 rfl ?_
                  refine wl_bin (fun x y => do eqGuard .add 3 (.tmp 73) (.const (.int .i64 (1))) x y; binOp .add 3 x y) (.tmp 73) (.const (.int .i64 (1))) (.int .i64 ((i : Nat) : Int)) (.int .i64 (1)) (.int .i64 ((i + 1 : Nat) : Int)) (fun _ => rfl) rfl rfl (add1r (k := i) (by omega) _ _ _) rfl ?_
                  refine wl_mv (.tmp 74) (.int .i64 ((i + 1 : Nat) : Int)) (fun _ => rfl) rfl rfl ?_
                  refine w_nil ?_
                  refine xn_blk ?_
                  refine xn_then ?_
                  refine w_reg ?_
                  refine wl_mv (.tmp 4) (.int .i64 ((i : Nat) : Int)) (fun _ => rfl) e4 rfl ?_
                  refine wl_bin (fun x y => do eqGuard .add 3 (.tmp 26) (.const (.int .i64 (1))) x y; binOp .add 3 x y) (.tmp 26) (.const (.int .i64 (1))) (.int .i64 ((i : Nat) : Int)) (.int .i64 (1)) (.int .i64 ((i + 1 : Nat) : Int)) (fun _ => rfl) rfl rfl (add1r (k := i) (by omega) _ _ _) rfl ?_
                  refine wl_mv (.tmp 27) (.int .i64 ((i + 1 : Nat) : Int)) (fun _ => rfl) rfl rfl ?_
                  refine w_nil ?_
                  exact xn_loop (s.size - (i + 1)) (by omega) ⟨i + 1, i + 1, true, false, rfl, e0, rfl, rfl, rfl, e6, e7, by omega, by omega, by rw [hR, gx_in (of_decide_eq_true hf0)]; simp [hf1, hf2p, hf3, hf4], M⟩
            | false =>
              refine w_reg ?_
              refine wl_mv (.tmp 8) (.int .u8 (bt s (i))) (fun _ => rfl) rfl rfl ?_
              refine wl_call 32 [(.tmp 44)] _ [.int .u8 (bt s (i))] (.bool false) rfl rfl (fun _ _ => by kernel_rfl) (digit_c hf3 _) rfl ?_
              intro w21 hq
              replace M := M.trans hq
              clear hq
              refine wl_un (fun v => Op.unary .not v) (.tmp 45) (.bool false) (.bool true) (fun _ => rfl) rfl (by kernel_rfl) rfl ?_
              refine wl_mv (.tmp 46) (.bool true) (fun _ => rfl) rfl rfl ?_
              refine wl_skip rfl ?_
              refine wl_skip rfl ?_
              refine wl_skip rfl ?_
              refine wl_skip rfl ?_
              refine wl_skip rfl ?_
              refine wl_skip rfl ?_
              refine wl_skip rfl ?_
              refine wl_skip rfl ?_
              refine wl_skip rfl ?_
              refine wl_skip rfl ?_
              refine wl_skip rfl ?_
              refine wl_skip rfl ?_
              refine wl_skip rfl ?_
              refine wl_pick (.tmp 47) (.const (.bool true)) (.tmp 60) true (.bool true) (fun _ => rfl) rfl rfl rfl ?_
              refine wl_mv (.tmp 61) (.bool true) (fun _ => rfl) rfl rfl ?_
              refine w_nil ?_
              refine xn_then ?_
              refine w_condT rfl ?_
              refine w_seq ?_
              refine w_reg ?_
              refine wl_mv (.tmp 3) (.int .i64 ((best : Nat) : Int)) (fun _ => rfl) e3 rfl ?_
              refine wl_mv (.tmp 62) (.int .i64 ((best : Nat) : Int)) (fun _ => rfl) rfl rfl ?_
              refine w_nil ?_
              refine xn_then ?_
              refine w_ret ?_
              refine xr_blk ?_
              refine xr_then ?_
              refine xr_blk ?_
              refine xr_then ?_
              refine xr_then ?_
              refine xr_blk ?_
              refine xr_then ?_
              have hfin : pfx s = best := by rw [hR, gx_in (of_decide_eq_true hf0)]; simp [hf1, hf2p, hf3]
              exact w_ret1 _ (.int .i64 ((best : Nat) : Int)) rfl rfl ⟨by rw [hfin], M⟩
      | false =>
        refine w_reg ?_
        refine wl_mv (.tmp 8) (.int .u8 (bt s (i))) (fun _ => rfl) rfl rfl ?_
        refine wl_bin (fun x y => do eqGuard .eql 5 (.tmp 32) (.const (.int .u8 (46))) x y; binOp .eql 5 x y) (.tmp 32) (.const (.int .u8 (46))) (.int .u8 (bt s (i))) (.int .u8 (46)) (.bool false) (fun _ => rfl) rfl rfl (eq5r hf1 _ _ _) rfl ?_
        refine wl_mv (.tmp 33) (.bool false) (fun _ => rfl) rfl rfl ?_
        refine wl_skip rfl ?_
        refine wl_skip rfl ?_
        refine wl_pick (.tmp 34) (.tmp 36) (.const (.bool false)) false (.bool false) (fun _ => rfl) rfl rfl rfl ?_
        refine wl_mv (.tmp 37) (.bool false) (fun _ => rfl) rfl rfl ?_
        refine wl_skip rfl ?_
        refine wl_skip rfl ?_
        refine wl_skip rfl ?_
        refine wl_pick (.tmp 38) (.tmp 41) (.const (.bool false)) false (.bool false) (fun _ => rfl) rfl rfl rfl ?_
        refine wl_mv (.tmp 42) (.bool false) (fun _ => rfl) rfl rfl ?_
        refine w_nil ?_
        refine xn_then ?_
        refine w_condF rfl ?_
        refine w_seq ?_
        cases hf2 : dgt (bt s (i)) with
        | true =>
          cases q with
          | true =>
            refine w_reg ?_
            refine wl_mv (.tmp 8) (.int .u8 (bt s (i))) (fun _ => rfl) rfl rfl ?_
            refine wl_call 32 [(.tmp 44)] _ [.int .u8 (bt s (i))] (.bool true) rfl rfl (fun _ _ => by kernel_rfl) (digit_c hf2 _) rfl ?_
            intro w21 hq
            replace M := M.trans hq
            clear hq
            refine wl_un (fun v => Op.unary .not v) (.tmp 45) (.bool true) (.bool false) (fun _ => rfl) rfl (by kernel_rfl) rfl ?_
            refine wl_mv (.tmp 46) (.bool false) (fun _ => rfl) rfl rfl ?_
            refine wl_mv (.tmp 6) (.bool true) (fun _ => rfl) e6 rfl ?_
            refine wl_un (fun v => Op.unary .not v) (.tmp 48) (.bool true) (.bool false) (fun _ => rfl) rfl (by kernel_rfl) rfl ?_
            refine wl_mv (.tmp 49) (.bool false) (fun _ => rfl) rfl rfl ?_
            refine wl_skip rfl ?_
            refine wl_skip rfl ?_
            refine wl_skip rfl ?_
            refine wl_pick (.tmp 50) (.tmp 53) (.const (.bool false)) false (.bool false) (fun _ => rfl) rfl rfl rfl ?_
            refine wl_mv (.tmp 54) (.bool false) (fun _ => rfl) rfl rfl ?_
            refine wl_skip rfl ?_
            refine wl_skip rfl ?_
            refine wl_skip rfl ?_
            refine wl_skip rfl ?_
            refine wl_pick (.tmp 55) (.tmp 59) (.const (.bool false)) false (.bool false) (fun _ => rfl) rfl rfl rfl ?_
            refine wl_pick (.tmp 47) (.const (.bool true)) (.tmp 60) false (.bool false) (fun _ => rfl) rfl rfl rfl ?_
            refine wl_mv (.tmp 61) (.bool false) (fun _ => rfl) rfl rfl ?_
            refine w_nil ?_
            refine xn_then ?_
            refine w_condF rfl ?_
            refine w_skip ?_
            refine xn_blk ?_
            refine xn_then ?_
            refine w_seq ?_
            cases o with
            | true =>
              refine w_reg ?_
              refine wl_mv (.tmp 5) (.bool true) (fun _ => rfl) e5 rfl ?_
              refine wl_mv (.tmp 63) (.bool true) (fun _ => rfl) rfl rfl ?_
              refine wl_skip rfl ?_
              refine wl_skip rfl ?_
              refine wl_pick (.tmp 64) (.const (.bool true)) (.tmp 66) true (.bool true) (fun _ => rfl) rfl rfl rfl ?_
              refine wl_mv (.tmp 67) (.bool true) (fun _ => rfl) rfl rfl ?_
              refine w_nil ?_
              refine xn_then ?_
              refine w_seq ?_
              refine w_reg ?_
              refine wl_mv (.tmp 5) (.bool true) (fun _ => rfl) rfl rfl ?_
              refine wl_mv (.tmp 68) (.bool true) (fun _ => rfl) rfl rfl ?_
              refine wl_skip rfl ?_
              refine wl_skip rfl ?_
              refine wl_pick (.tmp 69) (.const (.bool true)) (.tmp 71) true (.bool true) (fun _ => rfl) rfl rfl rfl ?_
              refine w_nil ?_
              refine xn_then ?_
              refine w_condT rfl ?_
              refine w_reg ?_
              refine wl_mv (.tmp 4) (.int .i64 ((i : Nat) : Int)) (fun _ => rfl) e4 rfl ?_
              refine wl_bin (fun x y => do eqGuard .add 3 (.tmp 73) (.const (.int .i64 (1))) x y; binOp .add 3 x y) (.tmp 73) (.const (.int .i64 (1))) (.int .i64 ((i : Nat) : Int)) (.int .i64 (1)) (.int .i64 ((i + 1 : Nat) : Int)) (fun _ => rfl) rfl rfl (add1r (k := i) (by omega) _ _ _) rfl ?_
              refine wl_mv (.tmp 74) (.int .i64 ((i + 1 : Nat) : Int)) (fun _ => rfl) rfl rfl ?_
              refine w_nil ?_
              refine xn_blk ?_
              refine xn_then ?_
              refine w_reg ?_
              refine wl_mv (.tmp 4) (.int .i64 ((i : Nat) : Int)) (fun _ => rfl) e4 rfl ?_
              refine wl_bin (fun x y => do eqGuard .add 3 (.tmp 26) (.const (.int .i64 (1))) x y; binOp .add 3 x y) (.tmp 26) (.const (.int .i64 (1))) (.int .i64 ((i : Nat) : Int)) (.int .i64 (1)) (.int .i64 ((i + 1 : Nat) : Int)) (fun _ => rfl) rfl rfl (add1r (k := i) (by omega) _ _ _) rfl ?_
              refine wl_mv (.tmp 27) (.int .i64 ((i + 1 : Nat) : Int)) (fun _ => rfl) rfl rfl ?_
              refine w_nil ?_
              exact xn_loop (s.size - (i + 1)) (by omega) ⟨i + 1, i + 1, true, true, rfl, e0, rfl, rfl, rfl, e6, e7, by omega, by omega, by rw [hR, gx_in (of_decide_eq_true hf0)]; simp [hf1, hf2], M⟩
            | false =>
              cases hf3 : (bt s (i) == 48) with
              | true =>
                refine w_reg ?_
                refine wl_mv (.tmp 5) (.bool false) (fun _ => rfl) e5 rfl ?_
                refine wl_mv (.tmp 63) (.bool false) (fun _ => rfl) rfl rfl ?_
                refine wl_mv (.tmp 8) (.int .u8 (bt s (i))) (fun _ => rfl) rfl rfl ?_
                refine wl_bin (fun x y => do eqGuard .neq 5 (.tmp 65) (.const (.int .u8 (48))) x y; binOp .neq 5 x y) (.tmp 65) (.const (.int .u8 (48))) (.int .u8 (bt s (i))) (.int .u8 (48)) (.bool false) (fun _ => rfl) rfl rfl (ne5r hf3 _ _ _) rfl ?_
                refine wl_pick (.tmp 64) (.const (.bool true)) (.tmp 66) false (.bool false) (fun _ => rfl) rfl rfl rfl ?_
                refine wl_mv (.tmp 67) (.bool false) (fun _ => rfl) rfl rfl ?_
                refine w_nil ?_
                refine xn_then ?_
                refine w_seq ?_
                cases hf4 : decide (p = 0) with
                | true =>
                  have hf4p := of_decide_eq_true hf4
                  refine w_reg ?_
                  refine wl_mv (.tmp 5) (.bool false) (fun _ => rfl) rfl rfl ?_
                  refine wl_mv (.tmp 68) (.bool false) (fun _ => rfl) rfl rfl ?_
                  refine wl_mv (.tmp 7) (.int .i64 ((p : Nat) : Int)) (fun _ => rfl) e7 rfl ?_
                  refine wl_bin (fun x y => do eqGuard .eql 3 (.tmp 70) (.const (.int .i64 (0))) x y; binOp .eql 3 x y) (.tmp 70) (.const (.int .i64 (0))) (.int .i64 ((p : Nat) : Int)) (.int .i64 (0)) (.bool true) (fun _ => rfl) rfl rfl (eqN hf4 _ _ _) rfl ?_
                  refine wl_pick (.tmp 69) (.const (.bool true)) (.tmp 71) false (.bool true) (fun _ => rfl) rfl rfl rfl ?_
                  refine w_nil ?_
                  refine xn_then ?_
                  refine w_condT rfl ?_
                  refine w_reg ?_
                  refine wl_mv (.tmp 4) (.int .i64 ((i : Nat) : Int)) (fun _ => rfl) e4 rfl ?_
                  refine wl_bin (fun x y => do eqGuard .add 3 (.tmp 73) (.const (.int .i64 (1))) x y; binOp .add 3 x y) (.tmp 73) (.const (.int .i64 (1))) (.int .i64 ((i : Nat) : Int)) (.int .i64 (1)) (.int .i64 ((i + 1 : Nat) : Int)) (fun _ => rfl) rfl rfl (add1r (k := i) (by omega) _ _ _) rfl ?_
                  refine wl_mv (.tmp 74) (.int .i64 ((i + 1 : Nat) : Int)) (fun _ => rfl) rfl rfl ?_
                  refine w_nil ?_
                  refine xn_blk ?_
                  refine xn_then ?_
                  refine w_reg ?_
                  refine wl_mv (.tmp 4) (.int .i64 ((i : Nat) : Int)) (fun _ => rfl) e4 rfl ?_
                  refine wl_bin (fun x y => do eqGuard .add 3 (.tmp 26) (.const (.int .i64 (1))) x y; binOp .add 3 x y) (.tmp 26) (.const (.int .i64 (1))) (.int .i64 ((i : Nat) : Int)) (.int .i64 (1)) (.int .i64 ((i + 1 : Nat) : Int)) (fun _ => rfl) rfl rfl (add1r (k := i) (by omega) _ _ _) rfl ?_
                  refine wl_mv (.tmp 27) (.int .i64 ((i + 1 : Nat) : Int)) (fun _ => rfl) rfl rfl ?_
                  refine w_nil ?_
                  exact xn_loop (s.size - (i + 1)) (by omega) ⟨i + 1, i + 1, false, true, rfl, e0, rfl, rfl, rfl, e6, e7, by omega, by omega, by rw [hR, gx_in (of_decide_eq_true hf0)]; simp [hf1, hf2, hf3, hf4], M⟩
                | false =>
                  have hf4p := of_decide_eq_false hf4
                  refine w_reg ?_
                  refine wl_mv (.tmp 5) (.bool false) (fun _ => rfl) rfl rfl ?_
                  refine wl_mv (.tmp 68) (.bool false) (fun _ => rfl) rfl rfl ?_
                  refine wl_mv (.tmp 7) (.int .i64 ((p : Nat) : Int)) (fun _ => rfl) e7 rfl ?_
                  refine wl_bin (fun x y => do eqGuard .eql 3 (.tmp 70) (.const (.int .i64 (0))) x y; binOp .eql 3 x y) (.tmp 70) (.const (.int .i64 (0))) (.int .i64 ((p : Nat) : Int)) (.int .i64 (0)) (.bool false) (fun _ => rfl) rfl rfl (eqN hf4 _ _ _) rfl ?_
                  refine wl_pick (.tmp 69) (.const (.bool true)) (.tmp 71) false (.bool false) (fun _ => rfl) rfl rfl rfl ?_
                  refine w_nil ?_
                  refine xn_then ?_
                  refine w_condF rfl ?_
                  refine w_skip ?_
                  refine xn_blk ?_
                  refine xn_then ?_
                  refine w_reg ?_
                  refine wl_mv (.tmp 4) (.int .i64 ((i : Nat) : Int)) (fun _ => rfl) e4 rfl ?_
                  refine wl_bin (fun x y => do eqGuard .add 3 (.tmp 26) (.const (.int .i64 (1))) x y; binOp .add 3 x y) (.tmp 26) (.const (.int .i64 (1))) (.int .i64 ((i : Nat) : Int)) (.int .i64 (1)) (.int .i64 ((i + 1 : Nat) : Int)) (fun _ => rfl) rfl rfl (add1r (k := i) (by omega) _ _ _) rfl ?_
                  refine wl_mv (.tmp 27) (.int .i64 ((i + 1 : Nat) : Int)) (fun _ => rfl) rfl rfl ?_
                  refine w_nil ?_
                  exact xn_loop (s.size - (i + 1)) (by omega) ⟨i + 1, best, false, true, rfl, e0, e3, rfl, rfl, e6, e7, by omega, by omega, by rw [hR, gx_in (of_decide_eq_true hf0)]; simp [hf1, hf2, hf3, hf4], M⟩
              | false =>
                refine w_reg ?_
                refine wl_mv (.tmp 5) (.bool false) (fun _ => rfl) e5 rfl ?_
                refine wl_mv (.tmp 63) (.bool false) (fun _ => rfl) rfl rfl ?_
                refine wl_mv (.tmp 8) (.int .u8 (bt s (i))) (fun _ => rfl) rfl rfl ?_
                refine wl_bin (fun x y => do eqGuard .neq 5 (.tmp 65) (.const (.int .u8 (48))) x y; binOp .neq 5 x y) (.tmp 65) (.const (.int .u8 (48))) (.int .u8 (bt s (i))) (.int .u8 (48)) (.bool true) (fun _ => rfl) rfl rfl (ne5r hf3 _ _ _) rfl ?_
                refine wl_pick (.tmp 64) (.const (.bool true)) (.tmp 66) false (.bool true) (fun _ => rfl) rfl rfl rfl ?_
                refine wl_mv (.tmp 67) (.bool true) (fun _ => rfl) rfl rfl ?_
                refine w_nil ?_
                refine xn_then ?_
                refine w_seq ?_
                refine w_reg ?_
                refine wl_mv (.tmp 5) (.bool true) (fun _ => rfl) rfl rfl ?_
                refine wl_mv (.tmp 68) (.bool true) (fun _ => rfl) rfl rfl ?_
                refine wl_skip rfl ?_
                refine wl_skip rfl ?_
                refine wl_pick (.tmp 69) (.const (.bool true)) (.tmp 71) true (.bool true) (fun _ => rfl) rfl rfl rfl ?_
                refine w_nil ?_
                refine xn_then ?_
                refine w_condT rfl ?_
                refine w_reg ?_
                refine wl_mv (.tmp 4) (.int .i64 ((i : Nat) : Int)) (fun _ => rfl) e4 rfl ?_
                refine wl_bin (fun x y => do eqGuard .add 3 (.tmp 73) (.const (.int .i64 (1))) x y; binOp .add 3 x y) (.tmp 73) (.const (.int .i64 (1))) (.int .i64 ((i : Nat) : Int)) (.int .i64 (1)) (.int .i64 ((i + 1 : Nat) : Int)) (fun _ => rfl) rfl rfl (add1r (k := i) (by omega) _ _ _) rfl ?_
                refine wl_mv (.tmp 74) (.int .i64 ((i + 1 : Nat) : Int)) (fun _ => rfl) rfl rfl ?_
                refine w_nil ?_
                refine xn_blk ?_
                refine xn_then ?_
                refine w_reg ?_
                refine wl_mv (.tmp 4) (.int .i64 ((i : Nat) : Int)) (fun _ => rfl) e4 rfl ?_
                refine wl_bin (fun x y => do eqGuard .add 3 (.tmp 26) (.const (.int .i64 (1))) x y; binOp .add 3 x y) (.tmp 26) (.const (.int .i64 (1))) (.int .i64 ((i : Nat) : Int)) (.int .i64 (1)) (.int .i64 ((i + 1 : Nat) : Int)) (fun _ => rfl) rfl rfl (add1r (k := i) (by omega) _ _ _) rfl ?_
                refine wl_mv (.tmp 27) (.int .i64 ((i + 1 : Nat) : Int)) (fun _ => rfl) rfl rfl ?_
                refine w_nil ?_
                exact xn_loop (s.size - (i + 1)) (by omega) ⟨i + 1, i + 1, true, true, rfl, e0, rfl, rfl, rfl, e6, e7, by omega, by omega, by rw [hR, gx_in (of_decide_eq_true hf0)]; simp [hf1, hf2, hf3], M⟩
          | false =>
            cases hf3 : decide (p < i) with
            | true =>
              have hf3p := of_decide_eq_true hf3
              cases hf4 : (bt s (p) == 48) with
              | true =>
                refine w_reg ?_
                refine wl_mv (.tmp 8) (.int .u8 (bt s (i))) (fun _ => rfl) rfl rfl ?_
                refine wl_call 32 [(.tmp 44)] _ [.int .u8 (bt s (i))] (.bool true) rfl rfl (fun _ _ => by kernel_rfl) (digit_c hf2 _) rfl ?_
                intro w21 hq
                replace M := M.trans hq
                clear hq
                refine wl_un (fun v => Op.unary .not v) (.tmp 45) (.bool true) (.bool false) (fun _ => rfl) rfl (by kernel_rfl) rfl ?_
                refine wl_mv (.tmp 46) (.bool false) (fun _ => rfl) rfl rfl ?_
                refine wl_mv (.tmp 6) (.bool false) (fun _ => rfl) e6 rfl ?_
                refine wl_un (fun v => Op.unary .not v) (.tmp 48) (.bool false) (.bool true) (fun _ => rfl) rfl (by kernel_rfl) rfl ?_
                refine wl_mv (.tmp 49) (.bool true) (fun _ => rfl) rfl rfl ?_
                refine wl_mv (.tmp 4) (.int .i64 ((i : Nat) : Int)) (fun _ => rfl) e4 rfl ?_
                refine wl_mv (.tmp 7) (.int .i64 ((p : Nat) : Int)) (fun _ => rfl) e7 rfl ?_
                refine wl_bin (fun x y => do eqGuard .gtr 3 (.tmp 51) (.tmp 52) x y; binOp .gtr 3 x y) (.tmp 51) (.tmp 52) (.int .i64 ((i : Nat) : Int)) (.int .i64 ((p : Nat) : Int)) (.bool true) (fun _ => rfl) rfl rfl (gtN hf3 _ _ _) rfl ?_
                refine wl_pick (.tmp 50) (.tmp 53) (.const (.bool false)) true (.bool true) (fun _ => rfl) rfl rfl rfl ?_
                refine wl_mv (.tmp 54) (.bool true) (fun _ => rfl) rfl rfl ?_
                refine wl_mv (.tmp 0) (.string s) (fun _ => rfl) e0 rfl ?_
                refine wl_mv (.tmp 7) (.int .i64 ((p : Nat) : Int)) (fun _ => rfl) e7 rfl ?_
                refine wl_bin (fun x y => Instr.index 9 x y) (.tmp 56) (.tmp 57) (.string s) (.int .i64 ((p : Nat) : Int)) (.int .u8 (bt s (p))) (fun _ => rfl) rfl rfl (idx_b (by omega) _) rfl ?_
                refine wl_bin (fun x y => do eqGuard .eql 5 (.tmp 58) (.const (.int .u8 (48))) x y; binOp .eql 5 x y) (.tmp 58) (.const (.int .u8 (48))) (.int .u8 (bt s (p))) (.int .u8 (48)) (.bool true) (fun _ => rfl) rfl rfl (eq5r hf4 _ _ _) rfl ?_
                refine wl_pick (.tmp 55) (.tmp 59) (.const (.bool false)) true (.bool true) (fun _ => rfl) rfl rfl rfl ?_
                refine wl_pick (.tmp 47) (.const (.bool true)) (.tmp 60) false (.bool true) (fun _ => rfl) rfl rfl rfl ?_
                refine wl_mv (.tmp 61) (.bool true) (fun _ => rfl) rfl rfl ?_
                refine w_nil ?_
                refine xn_then ?_
                refine w_condT rfl ?_
                refine w_seq ?_
                refine w_reg ?_
                refine wl_mv (.tmp 3) (.int .i64 ((best : Nat) : Int)) (fun _ => rfl) e3 rfl ?_
                refine wl_mv (.tmp 62) (.int .i64 ((best : Nat) : Int)) (fun _ => rfl) rfl rfl ?_
                refine w_nil ?_
                refine xn_then ?_
                refine w_ret ?_
                refine xr_blk ?_
                refine xr_then ?_
                refine xr_blk ?_
                refine xr_then ?_
                refine xr_then ?_
                refine xr_blk ?_
                refine xr_then ?_
                have hfin : pfx s = best := by rw [hR, gx_in (of_decide_eq_true hf0)]; simp [hf1, hf2, hf3p, hf4]
                exact w_ret1 _ (.int .i64 ((best : Nat) : Int)) rfl rfl ⟨by rw [hfin], M⟩
              | false =>
                refine w_reg ?_
                refine wl_mv (.tmp 8) (.int .u8 (bt s (i))) (fun _ => rfl) rfl rfl ?_
                refine wl_call 32 [(.tmp 44)] _ [.int .u8 (bt s (i))] (.bool true) rfl rfl (fun _ _ => by kernel_rfl) (digit_c hf2 _) rfl ?_
                intro w21 hq
                replace M := M.trans hq
                clear hq
                refine wl_un (fun v => Op.unary .not v) (.tmp 45) (.bool true) (.bool false) (fun _ => rfl) rfl (by kernel_rfl) rfl ?_
                refine wl_mv (.tmp 46) (.bool false) (fun _ => rfl) rfl rfl ?_
                refine wl_mv (.tmp 6) (.bool false) (fun _ => rfl) e6 rfl ?_
                refine wl_un (fun v => Op.unary .not v) (.tmp 48) (.bool false) (.bool true) (fun _ => rfl) rfl (by kernel_rfl) rfl ?_
                refine wl_mv (.tmp 49) (.bool true) (fun _ => rfl) rfl rfl ?_
                refine wl_mv (.tmp 4) (.int .i64 ((i : Nat) : Int)) (fun _ => rfl) e4 rfl ?_
                refine wl_mv (.tmp 7) (.int .i64 ((p : Nat) : Int)) (fun _ => rfl) e7 rfl ?_
                refine wl_bin (fun x y => do eqGuard .gtr 3 (.tmp 51) (.tmp 52) x y; binOp .gtr 3 x y) (.tmp 51) (.tmp 52) (.int .i64 ((i : Nat) : Int)) (.int .i64 ((p : Nat) : Int)) (.bool true) (fun _ => rfl) rfl rfl (gtN hf3 _ _ _) rfl ?_
                refine wl_pick (.tmp 50) (.tmp 53) (.const (.bool false)) true (.bool true) (fun _ => rfl) rfl rfl rfl ?_
                refine wl_mv (.tmp 54) (.bool true) (fun _ => rfl) rfl rfl ?_
                refine wl_mv (.tmp 0) (.string s) (fun _ => rfl) e0 rfl ?_
                refine wl_mv (.tmp 7) (.int .i64 ((p : Nat) : Int)) (fun _ => rfl) e7 rfl ?_
                refine wl_bin (fun x y => Instr.index 9 x y) (.tmp 56) (.tmp 57) (.string s) (.int .i64 ((p : Nat) : Int)) (.int .u8 (bt s (p))) (fun _ => rfl) rfl rfl (idx_b (by omega) _) rfl ?_
                refine wl_bin (fun x y => do eqGuard .eql 5 (.tmp 58) (.const (.int .u8 (48))) x y; binOp .eql 5 x y) (.tmp 58) (.const (.int .u8 (48))) (.int .u8 (bt s (p))) (.int .u8 (48)) (.bool false) (fun _ => rfl) rfl rfl (eq5r hf4 _ _ _) rfl ?_
                refine wl_pick (.tmp 55) (.tmp 59) (.const (.bool false)) true (.bool false) (fun _ => rfl) rfl rfl rfl ?_
                refine wl_pick (.tmp 47) (.const (.bool true)) (.tmp 60) false (.bool false) (fun _ => rfl) rfl rfl rfl ?_
                refine wl_mv (.tmp 61) (.bool false) (fun _ => rfl) rfl rfl ?_
                refine w_nil ?_
                refine xn_then ?_
                refine w_condF rfl ?_
                refine w_skip ?_
                refine xn_blk ?_
                refine xn_then ?_
                refine w_seq ?_
                cases o with
                | true =>
                  refine w_reg ?_
                  refine wl_mv (.tmp 5) (.bool true) (fun _ => rfl) e5 rfl ?_
                  refine wl_mv (.tmp 63) (.bool true) (fun _ => rfl) rfl rfl ?_
                  refine wl_skip rfl ?_
                  refine wl_skip rfl ?_
                  refine wl_pick (.tmp 64) (.const (.bool true)) (.tmp 66) true (.bool true) (fun _ => rfl) rfl rfl rfl ?_
                  refine wl_mv (.tmp 67) (.bool true) (fun _ => rfl) rfl rfl ?_
                  refine w_nil ?_
                  refine xn_then ?_
                  refine w_seq ?_
                  refine w_reg ?_
                  refine wl_mv (.tmp 5) (.bool true) (fun _ => rfl) rfl rfl ?_
                  refine wl_mv (.tmp 68) (.bool true) (fun _ => rfl) rfl rfl ?_
                  refine wl_skip rfl ?_
                  refine wl_skip rfl ?_
                  refine wl_pick (.tmp 69) (.const (.bool true)) (.tmp 71) true (.bool true) (fun _ => rfl) rfl rfl rfl ?_
                  refine w_nil ?_
                  refine xn_then ?_
                  refine w_condT rfl ?_
                  refine w_reg ?_
                  refine wl_mv (.tmp 4) (.int .i64 ((i : Nat) : Int)) (fun _ => rfl) e4 rfl ?_
                  refine wl_bin (fun x y => do eqGuard .add 3 (.tmp 73) (.const (.int .i64 (1))) x y; binOp .add 3 x y) (.tmp 73) (.const (.int .i64 (1))) (.int .i64 ((i : Nat) : Int)) (.int .i64 (1)) (.int .i64 ((i + 1 : Nat) : Int)) (fun _ => rfl) rfl rfl (add1r (k := i) (by omega) _ _ _) rfl ?_
                  refine wl_mv (.tmp 74) (.int .i64 ((i + 1 : Nat) : Int)) (fun _ => rfl) rfl rfl ?_
                  refine w_nil ?_
                  refine xn_blk ?_
                  refine xn_then ?_
                  refine w_reg ?_
                  refine wl_mv (.tmp 4) (.int .i64 ((i : Nat) : Int)) (fun _ => rfl) e4 rfl ?_
                  refine wl_bin (fun x y => do eqGuard .add 3 (.tmp 26) (.const (.int .i64 (1))) x y; binOp .add 3 x y) (.tmp 26) (.const (.int .i64 (1))) (.int .i64 ((i : Nat) : Int)) (.int .i64 (1)) (.int .i64 ((i + 1 : Nat) : Int)) (fun _ => rfl) rfl rfl (add1r (k := i) (by omega) _ _ _) rfl ?_
                  refine wl_mv (.tmp 27) (.int .i64 ((i + 1 : Nat) : Int)) (fun _ => rfl) rfl rfl ?_
                  refine w_nil ?_
                  exact xn_loop (s.size - (i + 1)) (by omega) ⟨i + 1, i + 1, true, false, rfl, e0, rfl, rfl, rfl, e6, e7, by omega, by omega, by rw [hR, gx_in (of_decide_eq_true hf0)]; simp [hf1, hf2, hf3p, hf4], M⟩
                | false =>
                  cases hf5 : (bt s (i) == 48) with
                  | true =>
                    refine w_reg ?_
                    refine wl_mv (.tmp 5) (.bool false) (fun _ => rfl) e5 rfl ?_
                    refine wl_mv (.tmp 63) (.bool false) (fun _ => rfl) rfl rfl ?_
                    refine wl_mv (.tmp 8) (.int .u8 (bt s (i))) (fun _ => rfl) rfl rfl ?_
                    refine wl_bin (fun x y => do eqGuard .neq 5 (.tmp 65) (.const (.int .u8 (48))) x y; binOp .neq 5 x y) (.tmp 65) (.const (.int .u8 (48))) (.int .u8 (bt s (i))) (.int .u8 (48)) (.bool false) (fun _ => rfl) rfl rfl (ne5r hf5 _ _ _) rfl ?_
                    refine wl_pick (.tmp 64) (.const (.bool true)) (.tmp 66) false (.bool false) (fun _ => rfl) rfl rfl rfl ?_
                    refine wl_mv (.tmp 67) (.bool false) (fun _ => rfl) rfl rfl ?_
                    refine w_nil ?_
                    refine xn_then ?_
                    refine w_seq ?_
                    cases hf6 : decide (p = 0) with
                    | true =>
                      have hf6p := of_decide_eq_true hf6
                      refine w_reg ?_
                      refine wl_mv (.tmp 5) (.bool false) (fun _ => rfl) rfl rfl ?_
                      refine wl_mv (.tmp 68) (.bool false) (fun _ => rfl) rfl rfl ?_
                      refine wl_mv (.tmp 7) (.int .i64 ((p : Nat) : Int)) (fun _ => rfl) e7 rfl ?_
                      refine wl_bin (fun x y => do eqGuard .eql 3 (.tmp 70) (.const (.int .i64 (0))) x y; binOp .eql 3 x y) (.tmp 70) (.const (.int .i64 (0))) (.int .i64 ((p : Nat) : Int)) (.int .i64 (0)) (.bool true) (fun _ => rfl) rfl rfl (eqN hf6 _ _ _) rfl ?_
                      refine wl_pick (.tmp 69) (.const (.bool true)) (.tmp 71) false (.bool true) (fun _ => rfl) rfl rfl rfl ?_
                      refine w_nil ?_
                      refine xn_then ?_
                      refine w_condT rfl ?_
                      refine w_reg ?_
                      refine wl_mv (.tmp 4) (.int .i64 ((i : Nat) : Int)) (fun _ => rfl) e4 rfl ?_
                      refine wl_bin (fun x y => do eqGuard .add 3 (.tmp 73) (.const (.int .i64 (1))) x y; binOp .add 3 x y) (.tmp 73) (.const (.int .i64 (1))) (.int .i64 ((i : Nat) : Int)) (.int .i64 (1)) (.int .i64 ((i + 1 : Nat) : Int)) (fun _ => rfl) rfl rfl (add1r (k := i) (by omega) _ _ _) rfl ?_
                      refine wl_mv (.tmp 74) (.int .i64 ((i + 1 : Nat) : Int)) (fun _ => rfl) rfl rfl ?_
                      refine w_nil ?_
                      refine xn_blk ?_
                      refine xn_then ?_
                      refine w_reg ?_
                      refine wl_mv (.tmp 4) (.int .i64 ((i : Nat) : Int)) (fun _ => rfl) e4 rfl ?_
                      refine wl_bin (fun x y => do eqGuard .add 3 (.tmp 26) (.const (.int .i64 (1))) x y; binOp .add 3 x y) (.tmp 26) (.const (.int .i64 (1))) (.int .i64 ((i : Nat) : Int)) (.int .i64 (1)) (.int .i64 ((i + 1 : Nat) : Int)) (fun _ => rfl) rfl rfl (add1r (k := i) (by omega) _ _ _) rfl ?_
                      refine wl_mv (.tmp 27) (.int .i64 ((i + 1 : Nat) : Int)) (fun _ => rfl) rfl rfl ?_
                      refine w_nil ?_
                      exact xn_loop (s.size - (i + 1)) (by omega) ⟨i + 1, i + 1, false, false, rfl, e0, rfl, rfl, rfl, e6, e7, by omega, by omega, by rw [hR, gx_in (of_decide_eq_true hf0)]; simp [hf1, hf2, hf3p, hf4, hf5, hf6], M⟩
                    | false =>
                      have hf6p := of_decide_eq_false hf6
                      refine w_reg ?_
                      refine wl_mv (.tmp 5) (.bool false) (fun _ => rfl) rfl rfl ?_
                      refine wl_mv (.tmp 68) (.bool false) (fun _ => rfl) rfl rfl ?_
                      refine wl_mv (.tmp 7) (.int .i64 ((p : Nat) : Int)) (fun _ => rfl) e7 rfl ?_
                      refine wl_bin (fun x y => do eqGuard .eql 3 (.tmp 70) (.const (.int .i64 (0))) x y; binOp .eql 3 x y) (.tmp 70) (.const (.int .i64 (0))) (.int .i64 ((p : Nat) : Int)) (.int .i64 (0)) (.bool false) (fun _ => rfl) rfl rfl (eqN hf6 _ _ _) rfl ?_
                      refine wl_pick (.tmp 69) (.const (.bool true)) (.tmp 71) false (.bool false) (fun _ => rfl) rfl rfl rfl ?_
                      refine w_nil ?_
                      refine xn_then ?_
                      refine w_condF rfl ?_
                      refine w_skip ?_
                      refine xn_blk ?_
                      refine xn_then ?_
                      refine w_reg ?_
                      refine wl_mv (.tmp 4) (.int .i64 ((i : Nat) : Int)) (fun _ => rfl) e4 rfl ?_
                      refine wl_bin (fun x y => do eqGuard .add 3 (.tmp 26) (.const (.int .i64 (1))) x y; binOp .add 3 x y) (.tmp 26) (.const (.int .i64 (1))) (.int .i64 ((i : Nat) : Int)) (.int .i64 (1)) (.int .i64 ((i + 1 : Nat) : Int)) (fun _ => rfl) rfl rfl (add1r (k := i) (by omega) _ _ _) rfl ?_
                      refine wl_mv (.tmp 27) (.int .i64 ((i + 1 : Nat) : Int)) (fun _ => rfl) rfl rfl ?_
                      refine w_nil ?_
                      exact xn_loop (s.size - (i + 1)) (by omega) ⟨i + 1, best, false, false, rfl, e0, e3, rfl, rfl, e6, e7, by omega, by omega, by rw [hR, gx_in (of_decide_eq_true hf0)]; simp [hf1, hf2, hf3p, hf4, hf5, hf6], M⟩
                  | false =>
                    refine w_reg ?_
                    refine wl_mv (.tmp 5) (.bool false) (fun _ => rfl) e5 rfl ?_
                    refine wl_mv (.tmp 63) (.bool false) (fun _ => rfl) rfl rfl ?_
                    refine wl_mv (.tmp 8) (.int .u8 (bt s (i))) (fun _ => rfl) rfl rfl ?_
                    refine wl_bin (fun x y => do eqGuard .neq 5 (.tmp 65) (.const (.int .u8 (48))) x y; binOp .neq 5 x y) (.tmp 65) (.const (.int .u8 (48))) (.int .u8 (bt s (i))) (.int .u8 (48)) (.bool true) (fun _ => rfl) rfl rfl (ne5r hf5 _ _ _) rfl ?_
                    refine wl_pick (.tmp 64) (.const (.bool true)) (.tmp 66) false (.bool true) (fun _ => rfl) rfl rfl rfl ?_
                    refine wl_mv (.tmp 67) (.bool true) (fun _ => rfl) rfl rfl ?_
                    refine w_nil ?_
                    refine xn_then ?_
                    refine w_seq ?_
                    refine w_reg ?_
                    refine wl_mv (.tmp 5) (.bool true) (fun _ => rfl) rfl rfl ?_
                    refine wl_mv (.tmp 68) (.bool true) (fun _ => rfl) rfl rfl ?_
                    refine wl_skip rfl ?_
                    refine wl_skip rfl ?_
                    refine wl_pick (.tmp 69) (.const (.bool true)) (.tmp 71) true (.bool true) (fun _ => rfl) rfl rfl rfl ?_
                    refine w_nil ?_
                    refine xn_then ?_
                    refine w_condT rfl ?_
                    refine w_reg ?_
                    refine wl_mv (.tmp 4) (.int .i64 ((i : Nat) : Int)) (fun _ => rfl) e4 rfl ?_
                    refine wl_bin (fun x y => do eqGuard .add 3 (.tmp 73) (.const (.int .i64 (1))) x y; binOp .add 3 x y) (.tmp 73) (.const (.int .i64 (1))) (.int .i64 ((i : Nat) : Int)) (.int .i64 (1)) (.int .i64 ((i + 1 : Nat) : Int)) (fun _ => rfl) rfl rfl (add1r (k := i) (by omega) _ _ _) rfl ?_
                    refine wl_mv (.tmp 74) (.int .i64 ((i + 1 : Nat) : Int)) (fun _ => rfl) rfl rfl ?_
                    refine w_nil ?_
                    refine xn_blk ?_
                    refine xn_then ?_
                    refine w_reg ?_
                    refine wl_mv (.tmp 4) (.int .i64 ((i : Nat) : Int)) (fun _ => rfl) e4 rfl ?_
                    refine wl_bin (fun x y => do eqGuard .add 3 (.tmp 26) (.const (.int .i64 (1))) x y; binOp .add 3 x y) (.tmp 26) (.const (.int .i64 (1))) (.int .i64 ((i : Nat) : Int)) (.int .i64 (1)) (.int .i64 ((i + 1 : Nat) : Int)) (fun _ => rfl) rfl rfl (add1r (k := i) (by omega) _ _ _) rfl ?_
                    refine wl_mv (.tmp 27) (.int .i64 ((i + 1 : Nat) : Int)) (fun _ => rfl) rfl rfl ?_
                    refine w_nil ?_
                    exact xn_loop (s.size - (i + 1)) (by omega) ⟨i + 1, i + 1, true, false, rfl, e0, rfl, rfl, rfl, e6, e7, by omega, by omega, by rw [hR, gx_in (of_decide_eq_true hf0)]; simp [hf1, hf2, hf3p, hf4, hf5], M⟩
            | false =>
              have hf3p := of_decide_eq_false hf3
              refine w_reg ?_
              refine wl_mv (.tmp 8) (.int .u8 (bt s (i))) (fun _ => rfl) rfl rfl ?_
              refine wl_call 32 [(.tmp 44)] _ [.int .u8 (bt s (i))] (.bool true) rfl rfl (fun _ _ => by kernel_rfl) (digit_c hf2 _) rfl ?_
              intro w21 hq
              replace M := M.trans hq
              clear hq
              refine wl_un (fun v => Op.unary .not v) (.tmp 45) (.bool true) (.bool false) (fun _ => rfl) rfl (by kernel_rfl) rfl ?_
              refine wl_mv (.tmp 46) (.bool false) (fun _ => rfl) rfl rfl ?_
              refine wl_mv (.tmp 6) (.bool false) (fun _ => rfl) e6 rfl ?_
              refine wl_un (fun v => Op.unary .not v) (.tmp 48) (.bool false) (.bool true) (fun _ => rfl) rfl (by kernel_rfl) rfl ?_
              refine wl_mv (.tmp 49) (.bool true) (fun _ => rfl) rfl rfl ?_
              refine wl_mv (.tmp 4) (.int .i64 ((i : Nat) : Int)) (fun _ => rfl) e4 rfl ?_
              refine wl_mv (.tmp 7) (.int .i64 ((p : Nat) : Int)) (fun _ => rfl) e7 rfl ?_
              refine wl_bin (fun x y => do eqGuard .gtr 3 (.tmp 51) (.tmp 52) x y; binOp .gtr 3 x y) (.tmp 51) (.tmp 52) (.int .i64 ((i : Nat) : Int)) (.int .i64 ((p : Nat) : Int)) (.bool false) (fun _ => rfl) rfl rfl (gtN hf3 _ _ _) rfl ?_
              refine wl_pick (.tmp 50) (.tmp 53) (.const (.bool false)) true (.bool false) (fun _ => rfl) rfl rfl rfl ?_
              refine wl_mv (.tmp 54) (.bool false) (fun _ => rfl) rfl rfl ?_
              refine wl_skip rfl ?_
              refine wl_skip rfl ?_
              refine wl_skip rfl ?_
              refine wl_skip rfl ?_
              refine wl_pick (.tmp 55) (.tmp 59) (.const (.bool false)) false (.bool false) (fun _ => rfl) rfl rfl rfl ?_
              refine wl_pick (.tmp 47) (.const (.bool true)) (.tmp 60) false (.bool false) (fun _ => rfl) rfl rfl rfl ?_
              refine wl_mv (.tmp 61) (.bool false) (fun _ => rfl) rfl rfl ?_
              refine w_nil ?_
              refine xn_then ?_
              refine w_condF rfl ?_
              refine w_skip ?_
              refine xn_blk ?_
              refine xn_then ?_
              refine w_seq ?_
              cases o with
              | true =>
                refine w_reg ?_
                refine wl_mv (.tmp 5) (.bool true) (fun _ => rfl) e5 rfl ?_
                refine wl_mv (.tmp 63) (.bool true) (fun _ => rfl) rfl rfl ?_
                refine wl_skip rfl ?_
                refine wl_skip rfl ?_
                refine wl_pick (.tmp 64) (.const (.bool true)) (.tmp 66) true (.bool true) (fun _ => rfl) rfl rfl rfl ?_
                refine wl_mv (.tmp 67) (.bool true) (fun _ => rfl) rfl rfl ?_
                refine w_nil ?_
                refine xn_then ?_
                refine w_seq ?_
                refine w_reg ?_
                refine wl_mv (.tmp 5) (.bool true) (fun _ => rfl) rfl rfl ?_
                refine wl_mv (.tmp 68) (.bool true) (fun _ => rfl) rfl rfl ?_
                refine wl_skip rfl ?_
                refine wl_skip rfl ?_
                refine wl_pick (.tmp 69) (.const (.bool true)) (.tmp 71) true (.bool true) (fun _ => rfl) rfl rfl rfl ?_
                refine w_nil ?_
                refine xn_then ?_
                refine w_condT rfl ?_
                refine w_reg ?_
                refine wl_mv (.tmp 4) (.int .i64 ((i : Nat) : Int)) (fun _ => rfl) e4 rfl ?_
                refine wl_bin (fun x y => do eqGuard .add 3 (.tmp 73) (.const (.int .i64 (1))) x y; binOp .add 3 x y) (.tmp 73) (.const (.int .i64 (1))) (.int .i64 ((i : Nat) : Int)) (.int .i64 (1)) (.int .i64 ((i + 1 : Nat) : Int)) (fun _ => rfl) rfl rfl (add1r (k := i) (by omega) _ _ _) rfl ?_
                refine wl_mv (.tmp 74) (.int .i64 ((i + 1 : Nat) : Int)) (fun _ => rfl) rfl rfl ?_
                refine w_nil ?_
                refine xn_blk ?_
                refine xn_then ?_
                refine w_reg ?_
                refine wl_mv (.tmp 4) (.int .i64 ((i : Nat) : Int)) (fun _ => rfl) e4 rfl ?_
                refine wl_bin (fun x y => do eqGuard .add 3 (.tmp 26) (.const (.int .i64 (1))) x y; binOp .add 3 x y) (.tmp 26) (.const (.int .i64 (1))) (.int .i64 ((i : Nat) : Int)) (.int .i64 (1)) (.int .i64 ((i + 1 : Nat) : Int)) (fun _ => rfl) rfl rfl (add1r (k := i) (by omega) _ _ _) rfl ?_
                refine wl_mv (.tmp 27) (.int .i64 ((i + 1 : Nat) : Int)) (fun _ => rfl) rfl rfl ?_
                refine w_nil ?_
                exact xn_loop (s.size - (i + 1)) (by omega) ⟨i + 1, i + 1, true, false, rfl, e0, rfl, rfl, rfl, e6, e7, by omega, by omega, by rw [hR, gx_in (of_decide_eq_true hf0)]; simp [hf1, hf2, hf3p], M⟩
              | false =>
                cases hf4 : (bt s (i) == 48) with
                | true =>
                  refine w_reg ?_
                  refine wl_mv (.tmp 5) (.bool false) (fun _ => rfl) e5 rfl ?_
                  refine wl_mv (.tmp 63) (.bool false) (fun _ => rfl) rfl rfl ?_
                  refine wl_mv (.tmp 8) (.int .u8 (bt s (i))) (fun _ => rfl) rfl rfl ?_
                  refine wl_bin (fun x y => do eqGuard .neq 5 (.tmp 65) (.const (.int .u8 (48))) x y; binOp .neq 5 x y) (.tmp 65) (.const (.int .u8 (48))) (.int .u8 (bt s (i))) (.int .u8 (48)) (.bool false) (fun _ => rfl) rfl rfl (ne5r hf4 _ _ _) rfl ?_
                  refine wl_pick (.tmp 64) (.const (.bool true)) (.tmp 66) false (.bool false) (fun _ => rfl) rfl rfl rfl ?_
                  refine wl_mv (.tmp 67) (.bool false) (fun _ => rfl) rfl rfl ?_
                  refine w_nil ?_
                  refine xn_then ?_
                  refine w_seq ?_
                  cases hf5 : decide (p = 0) with
                  | true =>
                    have hf5p := of_decide_eq_true hf5
                    refine w_reg ?_
                    refine wl_mv (.tmp 5) (.bool false) (fun _ => rfl) rfl rfl ?_
                    refine wl_mv (.tmp 68) (.bool false) (fun _ => rfl) rfl rfl ?_
                    refine wl_mv (.tmp 7) (.int .i64 ((p : Nat) : Int)) (fun _ => rfl) e7 rfl ?_
                    refine wl_bin (fun x y => do eqGuard .eql 3 (.tmp 70) (.const (.int .i64 (0))) x y; binOp .eql 3 x y) (.tmp 70) (.const (.int .i64 (0))) (.int .i64 ((p : Nat) : Int)) (.int .i64 (0)) (.bool true) (fun _ => rfl) rfl rfl (eqN hf5 _ _ _) rfl ?_
                    refine wl_pick (.tmp 69) (.const (.bool true)) (.tmp 71) false (.bool true) (fun _ => rfl) rfl rfl rfl ?_
                    refine w_nil ?_
                    refine xn_then ?_
                    refine w_condT rfl ?_
                    refine w_reg ?_
                    refine wl_mv (.tmp 4) (.int .i64 ((i : Nat) : Int)) (fun _ => rfl) e4 rfl ?_
                    refine wl_bin (fun x y => do eqGuard .add 3 (.tmp 73) (.const (.int .i64 (1))) x y; binOp .add 3 x y) (.tmp 73) (.const (.int .i64 (1))) (.int .i64 ((i : Nat) : Int)) (.int .i64 (1)) (.int .i64 ((i + 1 : Nat) : Int)) (fun _ => rfl) rfl rfl (add1r (k := i) (by omega) _ _ _) rfl ?_
                    refine wl_mv (.tmp 74) (.int .i64 ((i + 1 : Nat) : Int)) (fun _ => rfl) rfl rfl ?_
                    refine w_nil ?_
                    refine xn_blk ?_
                    refine xn_then ?_
                    refine w_reg ?_
                    refine wl_mv (.tmp 4) (.int .i64 ((i : Nat) : Int)) (fun _ => rfl) e4 rfl ?_
                    refine wl_bin (fun x y => do eqGuard .add 3 (.tmp 26) (.const (.int .i64 (1))) x y; binOp .add 3 x y) (.tmp 26) (.const (.int .i64 (1))) (.int .i64 ((i : Nat) : Int)) (.int .i64 (1)) (.int .i64 ((i + 1 : Nat) : Int)) (fun _ => rfl) rfl rfl (add1r (k := i) (by omega) _ _ _) rfl ?_
                    refine wl_mv (.tmp 27) (.int .i64 ((i + 1 : Nat) : Int)) (fun _ => rfl) rfl rfl ?_
                    refine w_nil ?_
                    exact xn_loop (s.size - (i + 1)) (by omega) ⟨i + 1, i + 1, false, false, rfl, e0, rfl, rfl, rfl, e6, e7, by omega, by omega, by rw [hR, gx_in (of_decide_eq_true hf0)]; simp [hf1, hf2, hf3p, hf4, hf5], M⟩
                  | false =>
                    have hf5p := of_decide_eq_false hf5
                    refine w_reg ?_
                    refine wl_mv (.tmp 5) (.bool false) (fun _ => rfl) rfl rfl ?_
                    refine wl_mv (.tmp 68) (.bool false) (fun _ => rfl) rfl rfl ?_
                    refine wl_mv (.tmp 7) (.int .i64 ((p : Nat) : Int)) (fun _ => rfl) e7 rfl ?_
                    refine wl_bin (fun x y => do eqGuard .eql 3 (.tmp 70) (.const (.int .i64 (0))) x y; binOp .eql 3 x y) (.tmp 70) (.const (.int .i64 (0))) (.int .i64 ((p : Nat) : Int)) (.int .i64 (0)) (.bool false) (fun _ => rfl) rfl rfl (eqN hf5 _ _ _) rfl ?_
                    refine wl_pick (.tmp 69) (.const (.bool true)) (.tmp 71) false (.bool false) (fun _ => rfl) rfl rfl rfl ?_
                    refine w_nil ?_
                    refine xn_then ?_
                    refine w_condF rfl ?_
                    refine w_skip ?_
                    refine xn_blk ?_
                    refine xn_then ?_
                    refine w_reg ?_
                    refine wl_mv (.tmp 4) (.int .i64 ((i : Nat) : Int)) (fun _ => rfl) e4 rfl ?_
                    refine wl_bin (fun x y => do eqGuard .add 3 (.tmp 26) (.const (.int .i64 (1))) x y; binOp .add 3 x y) (.tmp 26) (.const (.int .i64 (1))) (.int .i64 ((i : Nat) : Int)) (.int .i64 (1)) (.int .i64 ((i + 1 : Nat) : Int)) (fun _ => rfl) rfl rfl (add1r (k := i) (by omega) _ _ _) rfl ?_
                    refine wl_mv (.tmp 27) (.int .i64 ((i + 1 : Nat) : Int)) (fun _ => rfl) rfl rfl ?_
                    refine w_nil ?_
                    exact xn_loop (s.size - (i + 1)) (by omega) ⟨i + 1, best, false, false, rfl, e0, e3, rfl, rfl, e6, e7, by omega, by omega, by rw [hR, gx_in (of_decide_eq_true hf0)]; simp [hf1, hf2, hf3p, hf4, hf5], M⟩
                | false =>
                  refine w_reg ?_
                  refine wl_mv (.tmp 5) (.bool false) (fun _ => rfl) e5 rfl ?_
                  refine wl_mv (.tmp 63) (.bool false) (fun _ => rfl) rfl rfl ?_
                  refine wl_mv (.tmp 8) (.int .u8 (bt s (i))) (fun _ => rfl) rfl rfl ?_
                  refine wl_bin (fun x y => do eqGuard .neq 5 (.tmp 65) (.const (.int .u8 (48))) x y; binOp .neq 5 x y) (.tmp 65) (.const (.int .u8 (48))) (.int .u8 (bt s (i))) (.int .u8 (48)) (.bool true) (fun _ => rfl) rfl rfl (ne5r hf4 _ _ _) rfl ?_
                  refine wl_pick (.tmp 64) (.const (.bool true)) (.tmp 66) false (.bool true) (fun _ => rfl) rfl rfl rfl ?_
                  refine wl_mv (.tmp 67) (.bool true) (fun _ => rfl) rfl rfl ?_
                  refine w_nil ?_
                  refine xn_then ?_
                  refine w_seq ?_
                  refine w_reg ?_
                  refine wl_mv (.tmp 5) (.bool true) (fun _ => rfl) rfl rfl ?_
                  refine wl_mv (.tmp 68) (.bool true) (fun _ => rfl) rfl rfl ?_
                  refine wl_skip rfl ?_
                  refine wl_skip rfl ?_
                  refine wl_pick (.tmp 69) (.const (.bool true)) (.tmp 71) true (.bool true) (fun _ => rfl) rfl rfl rfl ?_
                  refine w_nil ?_
                  refine xn_then ?_
                  refine w_condT rfl ?_
                  refine w_reg ?_
                  refine wl_mv (.tmp 4) (.int .i64 ((i : Nat) : Int)) (fun _ => rfl) e4 rfl ?_
                  refine wl_bin (fun x y => do eqGuard .add 3 (.tmp 73) (.const (.int .i64 (1))) x y; binOp .add 3 x y) (.tmp 73) (.const (.int .i64 (1))) (.int .i64 ((i : Nat) : Int)) (.int .i64 (1)) (.int .i64 ((i + 1 : Nat) : Int)) (fun _ => rfl) rfl rfl (add1r (k := i) (by omega) _ _ _) rfl ?_
                  refine wl_mv (.tmp 74) (.int .i64 ((i + 1 : Nat) : Int)) (fun _ => rfl) rfl rfl ?_
                  refine w_nil ?_
                  refine xn_blk ?_
                  refine xn_then ?_
                  refine w_reg ?_
                  refine wl_mv (.tmp 4) (.int .i64 ((i : Nat) : Int)) (fun _ => rfl) e4 rfl ?_
                  refine wl_bin (fun x y => do eqGuard .add 3 (.tmp 26) (.const (.int .i64 (1))) x y; binOp .add 3 x y) (.tmp 26) (.const (.int .i64 (1))) (.int .i64 ((i : Nat) : Int)) (.int .i64 (1)) (.int .i64 ((i + 1 : Nat) : Int)) (fun _ => rfl) rfl rfl (add1r (k := i) (by omega) _ _ _) rfl ?_
                  refine wl_mv (.tmp 27) (.int .i64 ((i + 1 : Nat) : Int)) (fun _ => rfl) rfl rfl ?_
                  refine w_nil ?_
                  exact xn_loop (s.size - (i + 1)) (by omega) ⟨i + 1, i + 1, true, false, rfl, e0, rfl, rfl, rfl, e6, e7, by omega, by omega, by rw [hR, gx_in (of_decide_eq_true hf0)]; simp [hf1, hf2, hf3p, hf4], M⟩
        | false =>
          refine w_reg ?_
          refine wl_mv (.tmp 8) (.int .u8 (bt s (i))) (fun _ => rfl) rfl rfl ?_
          refine wl_call 32 [(.tmp 44)] _ [.int .u8 (bt s (i))] (.bool false) rfl rfl (fun _ _ => by kernel_rfl) (digit_c hf2 _) rfl ?_
          intro w21 hq
          replace M := M.trans hq
          clear hq
          refine wl_un (fun v => Op.unary .not v) (.tmp 45) (.bool false) (.bool true) (fun _ => rfl) rfl (by kernel_rfl) rfl ?_
          refine wl_mv (.tmp 46) (.bool true) (fun _ => rfl) rfl rfl ?_
          refine wl_skip rfl ?_
          refine wl_skip rfl ?_
          refine wl_skip rfl ?_
          refine wl_skip rfl ?_
          refine wl_skip rfl ?_
          refine wl_skip rfl ?_
          refine wl_skip rfl ?_
          refine wl_skip rfl ?_
          refine wl_skip rfl ?_
          refine wl_skip rfl ?_
          refine wl_skip rfl ?_
          refine wl_skip rfl ?_
          refine wl_skip rfl ?_
          refine wl_pick (.tmp 47) (.const (.bool true)) (.tmp 60) true (.bool true) (fun _ => rfl) rfl rfl rfl ?_
          refine wl_mv (.tmp 61) (.bool true) (fun _ => rfl) rfl rfl ?_
          refine w_nil ?_
          refine xn_then ?_
          refine w_condT rfl ?_
          refine w_seq ?_
          refine w_reg ?_
          refine wl_mv (.tmp 3) (.int .i64 ((best : Nat) : Int)) (fun _ => rfl) e3 rfl ?_
          refine wl_mv (.tmp 62) (.int .i64 ((best : Nat) : Int)) (fun _ => rfl) rfl rfl ?_
          refine w_nil ?_
          refine xn_then ?_
          refine w_ret ?_
          refine xr_blk ?_
          refine xr_then ?_
          refine xr_blk ?_
          refine xr_then ?_
          refine xr_then ?_
          refine xr_blk ?_
          refine xr_then ?_
          have hfin : pfx s = best := by rw [hR, gx_in (of_decide_eq_true hf0)]; simp [hf1, hf2]
          exact w_ret1 _ (.int .i64 ((best : Nat) : Int)) rfl rfl ⟨by rw [hfin], M⟩
    | false =>
      have hf0p := of_decide_eq_false hf0
      refine w_reg ?_
      refine wl_mv (.tmp 4) (.int .i64 ((i : Nat) : Int)) (fun _ => rfl) e4 rfl ?_
      refine wl_mv (.tmp 0) (.string s) (fun _ => rfl) e0 rfl ?_
      refine wl_val (.int .i64 ((s.size : Nat) : Int)) (len_s _ _ s (by exact rfl) _ _ _ _ _ _) rfl ?_
      refine wl_bin (fun x y => do eqGuard .lss 3 (.tmp 22) (.tmp 24) x y; binOp .lss 3 x y) (.tmp 22) (.tmp 24) (.int .i64 ((i : Nat) : Int)) (.int .i64 ((s.size : Nat) : Int)) (.bool false) (fun _ => rfl) rfl rfl (ltN hf0 _ _ _) rfl ?_
      refine w_nil ?_
      refine xn_then ?_
      refine w_condF rfl ?_
      refine w_exit ?_
      refine xx_then ?_
      refine xx_then ?_
      refine xx_blk ?_
      refine xn_then ?_
      refine w_seq ?_
      refine w_reg ?_
      refine wl_mv (.tmp 3) (.int .i64 ((best : Nat) : Int)) (fun _ => rfl) e3 rfl ?_
      refine wl_mv (.tmp 75) (.int .i64 ((best : Nat) : Int)) (fun _ => rfl) rfl rfl ?_
      refine w_nil ?_
      refine xn_then ?_
      refine w_ret ?_
      have hfin : pfx s = best := by rw [hR, gx_out (of_decide_eq_false hf0)]
      exact w_ret1 _ (.int .i64 ((best : Nat) : Int)) rfl rfl ⟨by rw [hfin], M⟩
  · skip
    refine w_seq ?_
    cases hf0 : decide (0 < s.size) with
    | true =>
      have hf0p := of_decide_eq_true hf0
      cases hf1 : (bt s (0) == 45) with
      | true =>
        refine w_reg ?_
        refine wl_mv (.tmp 4) (.int .i64 (0)) (fun _ => rfl) rfl rfl ?_
        refine wl_mv (.tmp 0) (.string s) (fun _ => rfl) rfl rfl ?_
        refine wl_val (.int .i64 ((s.size : Nat) : Int)) (len_s _ _ s (by exact rfl) _ _ _ _ _ _) rfl ?_
        refine wl_bin (fun x y => do eqGuard .lss 3 (.tmp 9) (.tmp 11) x y; binOp .lss 3 x y) (.tmp 9) (.tmp 11) (.int .i64 (0)) (.int .i64 ((s.size : Nat) : Int)) (.bool true) (fun _ => rfl) rfl rfl (ltN hf0 _ _ _) rfl ?_
        refine wl_mv (.tmp 12) (.bool true) (fun _ => rfl) rfl rfl ?_
        refine wl_mv (.tmp 0) (.string s) (fun _ => rfl) rfl rfl ?_
        refine wl_mv (.tmp 4) (.int .i64 (0)) (fun _ => rfl) rfl rfl ?_
        refine wl_bin (fun x y => Instr.index 9 x y) (.tmp 14) (.tmp 15) (.string s) (.int .i64 (0)) (.int .u8 (bt s (0))) (fun _ => rfl) rfl rfl (idx_b (by omega) _) rfl ?_
        refine wl_bin (fun x y => do eqGuard .eql 5 (.tmp 16) (.const (.int .u8 (45))) x y; binOp .eql 5 x y) (.tmp 16) (.const (.int .u8 (45))) (.int .u8 (bt s (0))) (.int .u8 (45)) (.bool true) (fun _ => rfl) rfl rfl (eq5r hf1 _ _ _) rfl ?_
        refine wl_pick (.tmp 13) (.tmp 17) (.const (.bool false)) true (.bool true) (fun _ => rfl) rfl rfl rfl ?_
        refine w_nil ?_
        refine xn_then ?_
        refine w_condT rfl ?_
        refine w_reg ?_
        refine wl_mv (.tmp 4) (.int .i64 (0)) (fun _ => rfl) rfl rfl ?_
        refine wl_bin (fun x y => do eqGuard .add 3 (.tmp 19) (.const (.int .i64 (1))) x y; binOp .add 3 x y) (.tmp 19) (.const (.int .i64 (1))) (.int .i64 (0)) (.int .i64 (1)) (.int .i64 ((0 + 1 : Nat) : Int)) (fun _ => rfl) rfl rfl (add1r (k := 0) (by decide) _ _ _) rfl ?_
        refine wl_mv (.tmp 20) (.int .i64 ((0 + 1 : Nat) : Int)) (fun _ => rfl) rfl rfl ?_
        refine w_nil ?_
        exact xn_cut ⟨1, true, rfl, rfl, rfl, by omega, rfl, by unfold pfx; rw [hf1]; rfl, M⟩
      | false =>
        refine w_reg ?_
        refine wl_mv (.tmp 4) (.int .i64 (0)) (fun _ => rfl) rfl rfl ?_
        refine wl_mv (.tmp 0) (.string s) (fun _ => rfl) rfl rfl ?_
        refine wl_val (.int .i64 ((s.size : Nat) : Int)) (len_s _ _ s (by exact rfl) _ _ _ _ _ _) rfl ?_
        refine wl_bin (fun x y => do eqGuard .lss 3 (.tmp 9) (.tmp 11) x y; binOp .lss 3 x y) (.tmp 9) (.tmp 11) (.int .i64 (0)) (.int .i64 ((s.size : Nat) : Int)) (.bool true) (fun _ => rfl) rfl rfl (ltN hf0 _ _ _) rfl ?_
        refine wl_mv (.tmp 12) (.bool true) (fun _ => rfl) rfl rfl ?_
        refine wl_mv (.tmp 0) (.string s) (fun _ => rfl) rfl rfl ?_
        refine wl_mv (.tmp 4) (.int .i64 (0)) (fun _ => rfl) rfl rfl ?_
        refine wl_bin (fun x y => Instr.index 9 x y) (.tmp 14) (.tmp 15) (.string s) (.int .i64 (0)) (.int .u8 (bt s (0))) (fun _ => rfl) rfl rfl (idx_b (by omega) _) rfl ?_
        refine wl_bin (fun x y => do eqGuard .eql 5 (.tmp 16) (.const (.int .u8 (45))) x y; binOp .eql 5 x y) (.tmp 16) (.const (.int .u8 (45))) (.int .u8 (bt s (0))) (.int .u8 (45)) (.bool false) (fun _ => rfl) rfl rfl (eq5r hf1 _ _ _) rfl ?_
        refine wl_pick (.tmp 13) (.tmp 17) (.const (.bool false)) true (.bool false) (fun _ => rfl) rfl rfl rfl ?_
        refine w_nil ?_
        refine xn_then ?_
        refine w_condF rfl ?_
        refine w_skip ?_
        exact xn_cut ⟨0, false, rfl, rfl, rfl, by omega, rfl, by unfold pfx; rw [hf1]; rfl, M⟩
    | false =>
      have hf0p := of_decide_eq_false hf0
      refine w_reg ?_
      refine wl_mv (.tmp 4) (.int .i64 (0)) (fun _ => rfl) rfl rfl ?_
      refine wl_mv (.tmp 0) (.string s) (fun _ => rfl) rfl rfl ?_
      refine wl_val (.int .i64 ((s.size : Nat) : Int)) (len_s _ _ s (by exact rfl) _ _ _ _ _ _) rfl ?_
      refine wl_bin (fun x y => do eqGuard .lss 3 (.tmp 9) (.tmp 11) x y; binOp .lss 3 x y) (.tmp 9) (.tmp 11) (.int .i64 (0)) (.int .i64 ((s.size : Nat) : Int)) (.bool false) (fun _ => rfl) rfl rfl (ltN hf0 _ _ _) rfl ?_
      refine wl_mv (.tmp 12) (.bool false) (fun _ => rfl) rfl rfl ?_
      refine wl_skip rfl ?_
      refine wl_skip rfl ?_
      refine wl_skip rfl ?_
      refine wl_skip rfl ?_
      refine wl_pick (.tmp 13) (.tmp 17) (.const (.bool false)) false (.bool false) (fun _ => rfl) rfl rfl rfl ?_
      refine w_nil ?_
      refine xn_then ?_
      refine w_condF rfl ?_
      refine w_skip ?_
      have hb0 : (bt s 0 == 45) = false := by rw [bt_out (by omega)]; rfl
      exact xn_cut ⟨0, false, rfl, rfl, rfl, by omega, rfl, by unfold pfx; rw [hb0]; rfl, M⟩
end Go.Proofs.YtdcojpbgijkmgaaDoor
/-
  The longest beginning that is a decimal text: it is one, and no longer one is.
-/
namespace Go.Proofs.YtdcojpbgijkmgaaDoor
open Go.RowKit
/-- A beginning's letters. -/
theorem bt_pre {s t : ByteArray} {i : Nat} (h : by8 t = (by8 s).take i) (k : Nat) : bt t k = if k < i then bt s k else 0 := by
  rw [bt_tn, bt_tn, h]
  by_cases hk : k < i
  · rw [List.getElem?_take_of_lt hk, if_pos hk]
  · rw [List.getElem?_take, if_neg hk, if_neg hk]; rfl
theorem sz_pre {s t : ByteArray} {i : Nat} (h : by8 t = (by8 s).take i) (hi : i ≤ s.size) : t.size = i := by
  rw [← by8_len, h, List.length_take, by8_len]; omega
theorem re_pre {s t : ByteArray} {i k : Nat} (h : by8 t = (by8 s).take i) (hk : k ≤ i) : re t k = min (re s k) i := by
  have hge := re_ge s k
  refine re_eq (by omega) (fun j h1 h2 => ?_) ?_
  · rw [bt_pre h, if_pos (by omega)]; exact re_in h1 (by omega)
  · rw [bt_pre h]
    split
    · rw [show min (re s k) i = re s k by omega]; exact re_stop s k
    · rfl
theorem az_pre {s t : ByteArray} {i k : Nat} (h : by8 t = (by8 s).take i) (hk : k ≤ i) (ha : az s k = true) : az t k = true := by
  rw [az_iff] at ha ⊢
  rw [re_pre h hk]
  intro j h1 h2
  rw [bt_pre h, if_pos (by omega)]
  exact ha j h1 (by omega)
theorem az_pre2 {s t : ByteArray} {i k : Nat} (h : by8 t = (by8 s).take i) (hk : k ≤ i) (hr : re s k ≤ i) : az t k = az s k := by
  rw [Bool.eq_iff_iff, az_iff, az_iff, re_pre h hk, Nat.min_eq_left hr]
  constructor
  · intro a j h1 h2; have := a j h1 h2; rw [bt_pre h, if_pos (by omega)] at this; exact this
  · intro a j h1 h2; rw [bt_pre h, if_pos (by omega)]; exact a j h1 h2
theorem fi_ge {s t : ByteArray} {i p : Nat} {b : Bool} (h : by8 t = (by8 s).take i) (hi : i ≤ s.size) (hw : whp t p b = true) (hp : p ≤ i) : i ≤ fi s p b := by
  have hsz := sz_pre h hi
  unfold whp at hw
  rw [re_pre h hp, hsz] at hw
  simp only [Bool.and_eq_true, decide_eq_true_iff, Bool.not_eq_true'] at hw
  obtain ⟨⟨h1, h2⟩, h3⟩ := hw
  have hge := re_ge s p
  have hpi : p < i := by omega
  have hrp : p < re s p := by omega
  have hd : dgt (bt s p) = true := re_in (Nat.le_refl _) hrp
  rw [bt_pre h, if_pos hpi] at h2
  unfold fi
  by_cases h48 : bt s p = 48
  · rw [h48] at h2 ⊢
    simp only [beq_self_eq_true, if_true, Bool.true_and, decide_eq_false_iff_not] at h2 ⊢
    have haz : az t p = true := by
      rw [az_iff, re_pre h hp]
      intro j a b
      rw [show j = p by omega, bt_pre h, if_pos hpi, h48]
    rw [haz] at h3
    unfold ah
    by_cases hi1 : i = p + 1
    · rw [if_neg (by omega)] at h3
      have hb : b = false := by simpa using h3
      rw [hb]
      split
      · have := re_ge s (p + 1 + 1); simp; omega
      · simp; omega
    · have hre : re s p = p + 1 := by omega
      rw [show min (re s p) i = p + 1 by omega, if_pos (by omega)] at h3
      simp only [Bool.and_eq_true, decide_eq_true_iff, beq_iff_eq, Bool.or_eq_true, Bool.not_eq_true', Bool.not_true, Bool.false_eq_true, false_or] at h3
      obtain ⟨⟨⟨h4, h5⟩, h6⟩, h7⟩ := h3
      rw [bt_pre h, if_pos (by omega)] at h4
      rw [re_pre h (by omega)] at h6
      have hd2 : dgt (bt s (p + 1 + 1)) = true := re_in (Nat.le_refl _) (by omega)
      rw [h4, hd2]
      simp only [beq_self_eq_true, Bool.and_self, if_true]
      have hna : (b && az s (p + 1 + 1)) = false := by
        rcases h7 with h7 | h7
        · cases hz : az s (p + 1 + 1) with
          | false => simp
          | true => rw [az_pre h (by omega) hz] at h7; cases h7
        · rw [h7]; rfl
      rw [hna]
      simp; omega
  · rw [show (bt s p == 48) = false from beq_eq_false_iff_ne.2 h48, if_neg (by simp), if_pos hd]
    unfold ah
    by_cases hri : i ≤ re s p
    · split
      · have := re_ge s (re s p + 1); simp; omega
      · simp; omega
    · rw [show min (re s p) i = re s p by omega, if_pos (by omega)] at h3
      simp only [Bool.and_eq_true, decide_eq_true_iff, beq_iff_eq] at h3
      obtain ⟨⟨⟨h4, h5⟩, h6⟩, _⟩ := h3
      rw [bt_pre h, if_pos (by omega)] at h4
      rw [re_pre h (by omega)] at h6
      have hd2 : dgt (bt s (re s p + 1)) = true := re_in (Nat.le_refl _) (by omega)
      rw [h4, hd2]
      simp; omega
theorem whp_fi {s t : ByteArray} {p : Nat} {b : Bool} (hps : p ≤ s.size) (h : by8 t = (by8 s).take (fi s p b)) (h0 : 0 < fi s p b) (hb : b = false → p = 0) : whp t p b = true ∧ p ≤ fi s p b := by
  unfold fi at h h0 ⊢
  by_cases h48 : bt s p = 48
  · have hd : dgt (bt s p) = true := by rw [h48]; rfl
    have hin := dgt_in hd
    rw [h48] at h h0 ⊢
    simp only [beq_self_eq_true, if_true] at h h0 ⊢
    unfold ah at h h0 ⊢
    by_cases hc : ((bt s (p + 1) == 46) && dgt (bt s (p + 1 + 1))) = true
    · rw [if_pos hc] at h h0 ⊢
      simp only [Bool.and_eq_true, beq_iff_eq] at hc
      have hnd : dgt (bt s (p + 1)) = false := by rw [hc.1]; rfl
      have hre : re s p = p + 1 := by rw [re_on hd, re_end hnd]
      by_cases hn : (b && az s (p + 1 + 1)) = true
      · simp only [Bool.and_eq_true] at hn
        rw [hn.1, hn.2] at h0
        simp at h0
      · rw [if_neg hn] at h h0 ⊢
        have hlt := re_lt hc.2
        have hle : re s (p + 1 + 1) ≤ s.size := re_le (by have := dgt_in hc.2; omega)
        have hsz := sz_pre h hle
        have r1 : re t p = p + 1 := by rw [re_pre h (by omega), hre]; omega
        have r2 : re t (p + 1 + 1) = re s (p + 1 + 1) := by rw [re_pre h (by omega)]; omega
        have a2 := az_pre2 h (k := p + 1 + 1) (by omega) (Nat.le_refl _)
        refine ⟨?_, by omega⟩
        unfold whp
        rw [r1, hsz, if_pos (by omega), r2, a2, bt_pre h (p + 1), if_pos (by omega), hc.1]
        simp only [Bool.not_eq_true] at hn
        cases b <;> simp_all <;> omega
    · rw [if_neg hc] at h h0 ⊢
      cases hbb : b with
      | true => rw [hbb] at h0; simp at h0
      | false =>
        have hp0 := hb hbb
        rw [hbb] at h h0
        subst hp0
        simp only [Bool.false_eq_true, if_false] at h h0 ⊢
        have hsz := sz_pre h (by omega)
        have hge := re_lt hd
        have r1 : re t 0 = 1 := by rw [re_pre h (by omega)]; omega
        refine ⟨?_, by omega⟩
        unfold whp
        rw [r1, hsz]
        simp
  · rw [show (bt s p == 48) = false from beq_eq_false_iff_ne.2 h48] at h h0 ⊢
    simp only [Bool.false_eq_true, if_false] at h h0 ⊢
    by_cases hd : dgt (bt s p) = true
    · rw [if_pos hd] at h h0 ⊢
      have hlt := re_lt hd
      have hle := re_le hps
      unfold ah at h h0 ⊢
      by_cases hc : ((bt s (re s p) == 46) && dgt (bt s (re s p + 1))) = true
      · rw [if_pos hc] at h h0 ⊢
        simp only [Bool.and_eq_true, beq_iff_eq] at hc
        simp only [Bool.false_and, Bool.false_eq_true, if_false] at h h0 ⊢
        have hlt2 := re_lt hc.2
        have hle2 : re s (re s p + 1) ≤ s.size := re_le (by have := dgt_in hc.2; omega)
        have hsz := sz_pre h hle2
        have r1 : re t p = re s p := by rw [re_pre h (by omega)]; omega
        have r2 : re t (re s p + 1) = re s (re s p + 1) := by rw [re_pre h (by omega)]; omega
        have a1 : az t p = false := by
          cases ha : az t p with
          | false => rfl
          | true =>
            have := az_iff.1 ha p (Nat.le_refl _) (by omega)
            rw [bt_pre h, if_pos (by omega)] at this; exact absurd this h48
        refine ⟨?_, by omega⟩
        unfold whp
        rw [r1, hsz, if_pos (by omega), r2, a1, bt_pre h (re s p), if_pos (by omega), hc.1, bt_pre h p, if_pos (by omega), show (bt s p == 48) = false from beq_eq_false_iff_ne.2 h48]
        simp; omega
      · rw [if_neg hc] at h h0 ⊢
        simp only [Bool.false_eq_true, if_false] at h h0 ⊢
        have hsz := sz_pre h hle
        have r1 : re t p = re s p := by rw [re_pre h (by omega)]; omega
        have a1 : az t p = false := by
          cases ha : az t p with
          | false => rfl
          | true =>
            have := az_iff.1 ha p (Nat.le_refl _) (by omega)
            rw [bt_pre h, if_pos (by omega)] at this; exact absurd this h48
        refine ⟨?_, by omega⟩
        unfold whp
        rw [r1, hsz, if_neg (by omega), a1, bt_pre h p, if_pos (by omega), show (bt s p == 48) = false from beq_eq_false_iff_ne.2 h48]
        simp; omega
    · rw [if_neg hd] at h0; omega
/-- A beginning that is a decimal text is no longer than the longest one. -/
theorem pfx_ge {s t : ByteArray} {i : Nat} (h : by8 t = (by8 s).take i) (hi : i ≤ s.size) (hw : isDec t = true) : i ≤ pfx s := by
  have hsz := sz_pre h hi
  rw [← whl_dec] at hw
  unfold whl at hw
  unfold pfx
  by_cases h0 : 0 < i
  · rw [bt_pre h, if_pos h0] at hw
    cases hb : (bt s 0 == 45) with
    | true => rw [hb, if_pos rfl] at hw; rw [if_pos rfl]; exact fi_ge h hi hw (by omega)
    | false => rw [hb, if_neg (by simp)] at hw; rw [if_neg (by simp)]; exact fi_ge h hi hw (by omega)
  · omega
theorem pfx_dec {s t : ByteArray} (h : by8 t = (by8 s).take (pfx s)) (h0 : 0 < pfx s) : isDec t = true := by
  rw [← whl_dec]
  unfold whl
  rw [bt_pre h, if_pos h0]
  unfold pfx at h h0
  cases hb : (bt s 0 == 45) with
  | true =>
    rw [hb, if_pos rfl] at h h0
    rw [if_pos rfl]
    exact (whp_fi (by have := eq_in (by decide) hb; omega) h h0 (by simp)).1
  | false =>
    rw [hb, if_neg (by simp)] at h h0
    rw [if_neg (by simp)]
    exact (whp_fi (by omega) h h0 (by simp)).1
theorem fi_le {s : ByteArray} {p : Nat} {b : Bool} (hp : p ≤ s.size) : fi s p b ≤ s.size := by
  unfold fi
  split
  · rename_i h
    have hin := eq_in (by decide) h
    unfold ah
    split
    · rename_i h2
      simp only [Bool.and_eq_true] at h2
      have := dgt_in h2.2
      have := re_le (s := s) (k := p + 1 + 1) (by omega)
      split
      · split <;> omega
      · omega
    · split <;> omega
  · split
    · have h1 := re_le hp
      unfold ah
      split
      · rename_i h2
        simp only [Bool.and_eq_true] at h2
        have := dgt_in h2.2
        have := re_le (s := s) (k := re s p + 1) (by omega)
        simp; omega
      · simp; omega
    · omega
theorem pfx_le (s : ByteArray) : pfx s ≤ s.size := by
  unfold pfx
  split
  · rename_i h
    have := eq_in (by decide) h
    exact fi_le (by omega)
  · exact fi_le (by omega)
end Go.Proofs.YtdcojpbgijkmgaaDoor
/-
  exciselaw03.DectextPrefix, whatever the text.
-/
namespace Go.Proofs.YtdcojpbgijkmgaaDoor.V
open Go.RowKit Go.Lib
theorem ne3_run {a b : Int} {r : Bool} (h : (a == b) = r) (x y : Operand) (w : World) : (do eqGuard .neq 3 x y (.int .i64 a) (.int .i64 b); binOp .neq 3 (.int .i64 a) (.int .i64 b)).run Tryd.prog w = .ok (.bool (!r)) w := by
  subst h; kernel_rfl
theorem neE30 {a b : Int} {r : Bool} (h : (a == b) = r) (x y : Operand) (w : World) : (do eqGuard .neq 30 x y (.int .i64 a) (.int .i64 b); binOp .neq 30 (.int .i64 a) (.int .i64 b)).run Tryd.prog w = .ok (.bool (!r)) w := by
  subst h; kernel_rfl
theorem dprefix_n (s : ByteArray) (w : World) (hsz : s.size ≤ 140737488355328) : Calls Tryd.prog 5 #[.string s] w fun e w' => e = .returned (.bool true) ∧ Mw w w' := by
  have hs : s.size ≤ maxLen := by unfold maxLen; omega
  refine w_enter 56 Tryd.func5 Tryd.ntmps5 rfl rfl ?_
  have M : Mw w w := Mw.refl _
  refine w_seq ?_
  refine w_reg ?_
  refine wl_mv (.const (.bool false)) (.bool false) (fun _ => rfl) rfl rfl ?_
  refine w_nil ?_
  refine xn_then ?_
  refine w_seq ?_
  refine w_reg ?_
  refine wl_mv (.tmp 0) (.string s) (fun _ => rfl) rfl rfl ?_
  refine wl_call 17 [(.tmp 8)] _ [.string s] (.int .i64 ((pfx s : Nat) : Int)) rfl rfl (fun _ _ => by kernel_rfl) (wk (prefix_n s _ hs)) rfl ?_
  intro w1 hq
  replace M := M.trans hq
  clear hq
  refine wl_mv (.tmp 9) (.int .i64 ((pfx s : Nat) : Int)) (fun _ => rfl) rfl rfl ?_
  refine w_nil ?_
  refine xn_then ?_
  refine w_seq ?_
  refine w_seq ?_
  refine w_reg ?_
  refine wl_call 8 [] _ [] (.bool true) rfl rfl (fun _ _ => by kernel_rfl) (live_n _) rfl ?_
  intro w2 hq
  replace M := M.trans hq
  clear hq
  refine wl_un (fun v => Op.unary .not v) (.tmp 10) (.bool true) (.bool false) (fun _ => rfl) rfl (by kernel_rfl) rfl ?_
  refine wl_mv (.tmp 11) (.bool false) (fun _ => rfl) rfl rfl ?_
  refine wl_mv (.tmp 3) (.int .i64 ((pfx s : Nat) : Int)) (fun _ => rfl) rfl rfl ?_
  refine wl_mv (.tmp 0) (.string s) (fun _ => rfl) rfl rfl ?_
  refine wl_call 18 [(.tmp 14)] _ [.string s] (.int .i64 ((pfx s : Nat) : Int)) rfl rfl (fun _ _ => by kernel_rfl) (wk (rprefix_n s _ hs)) rfl ?_
  intro w3 hq
  replace M := M.trans hq
  clear hq
  refine wl_bin (fun x y => do eqGuard .neq 3 (.tmp 13) (.tmp 15) x y; binOp .neq 3 x y) (.tmp 13) (.tmp 15) (.int .i64 ((pfx s : Nat) : Int)) (.int .i64 ((pfx s : Nat) : Int)) (.bool false) (fun _ => rfl) rfl rfl (ne3_run (r := true) (beq_self_eq_true _) _ _ _) rfl ?_
  refine wl_pick (.tmp 12) (.const (.bool true)) (.tmp 16) false (.bool false) (fun _ => rfl) rfl rfl rfl ?_
  refine w_nil ?_
  refine xn_then ?_
  refine w_condF rfl ?_
  refine w_skip ?_
  refine xn_then ?_
  refine w_seq ?_
  refine w_seq ?_
  cases hf0 : decide (300 < s.size) with
  | true =>
    have hf0p := of_decide_eq_true hf0
    refine w_reg ?_
    refine wl_mv (.tmp 0) (.string s) (fun _ => rfl) rfl rfl ?_
    refine wl_val (.int .i64 ((s.size : Nat) : Int)) (len_s _ _ s (by exact rfl) _ _ _ _ _ _) rfl ?_
    refine wl_bin (fun x y => do eqGuard .gtr 3 (.tmp 19) (.const (.int .i64 (300))) x y; binOp .gtr 3 x y) (.tmp 19) (.const (.int .i64 (300))) (.int .i64 ((s.size : Nat) : Int)) (.int .i64 (300)) (.bool true) (fun _ => rfl) rfl rfl (gtN hf0 _ _ _) rfl ?_
    refine w_nil ?_
    refine xn_then ?_
    refine w_condT rfl ?_
    refine w_seq ?_
    refine w_reg ?_
    refine wl_mv (.const (.bool true)) (.bool true) (fun _ => rfl) rfl rfl ?_
    refine w_nil ?_
    refine xn_then ?_
    refine w_ret ?_
    refine xr_then ?_
    exact w_ret1 _ (.bool true) rfl rfl ⟨rfl, M⟩
  | false =>
    have hf0p := of_decide_eq_false hf0
    refine w_reg ?_
    refine wl_mv (.tmp 0) (.string s) (fun _ => rfl) rfl rfl ?_
    refine wl_val (.int .i64 ((s.size : Nat) : Int)) (len_s _ _ s (by exact rfl) _ _ _ _ _ _) rfl ?_
    refine wl_bin (fun x y => do eqGuard .gtr 3 (.tmp 19) (.const (.int .i64 (300))) x y; binOp .gtr 3 x y) (.tmp 19) (.const (.int .i64 (300))) (.int .i64 ((s.size : Nat) : Int)) (.int .i64 (300)) (.bool false) (fun _ => rfl) rfl rfl (gtN hf0 _ _ _) rfl ?_
    refine w_nil ?_
    refine xn_then ?_
    refine w_condF rfl ?_
    refine w_skip ?_
    refine xn_then ?_
    refine w_seq ?_
    refine w_seq ?_
    refine w_reg ?_
    refine wl_mv (.tmp 0) (.string s) (fun _ => rfl) rfl rfl ?_
    refine wl_val (.int .i64 ((s.size : Nat) : Int)) (len_s _ _ s (by exact rfl) _ _ _ _ _ _) rfl ?_
    refine wl_bin (fun x y => do eqGuard .add 3 (.tmp 22) (.const (.int .i64 (1))) x y; binOp .add 3 x y) (.tmp 22) (.const (.int .i64 (1))) (.int .i64 ((s.size : Nat) : Int)) (.int .i64 (1)) (.int .i64 ((s.size + 1 : Nat) : Int)) (fun _ => rfl) rfl rfl (add1r (k := s.size) (by omega) _ _ _) rfl ?_
    refine wl_mv (.const (.int .i64 (0))) (.int .i64 (0)) (fun _ => rfl) rfl rfl ?_
    refine w_nil ?_
    refine xn_then ?_
    refine w_block ?_
    refine w_loop (fun m l w1 => ∃ i : Nat, m = s.size + 1 - i ∧ look l 0 = .string s ∧ look l 3 = .int .i64 (pfx s : Int) ∧ look l 23 = .int .i64 ((s.size + 1 : Nat) : Int) ∧ look l 24 = .int .i64 (i : Int) ∧ i ≤ s.size + 1 ∧ Mw w w1) _ ⟨0, rfl, rfl, rfl, rfl, rfl, by omega, M⟩ ?_
    clear M
    rintro m l wl ⟨i, rfl, e0, e3, e23, e24, hi, M⟩
    have htl : (⟨((by8 s).take i).toArray⟩ : ByteArray).size ≤ s.size := by rw [tx_size, List.length_take, by8_len]; omega
    obtain ⟨b, N, E, k, _, _, _, _, h30, _, h4⟩ := parse_both ⟨((by8 s).take i).toArray⟩ (by omega)
    refine w_seq ?_
    cases hf1 : decide (i < s.size + 1) with
    | true =>
      have hf1p := of_decide_eq_true hf1
      refine w_reg ?_
      refine wl_bin (fun x y => do eqGuard .lss 3 (.tmp 24) (.tmp 23) x y; binOp .lss 3 x y) (.tmp 24) (.tmp 23) (.int .i64 ((i : Nat) : Int)) (.int .i64 ((s.size + 1 : Nat) : Int)) (.bool true) (fun _ => rfl) e24 e23 (ltN hf1 _ _ _) rfl ?_
      refine w_nil ?_
      refine xn_then ?_
      refine w_seq ?_
      refine w_condT rfl ?_
      refine w_skip ?_
      refine xn_then ?_
      refine w_seq ?_
      refine w_block ?_
      refine w_seq ?_
      refine w_reg ?_
      refine wl_mv (.tmp 24) (.int .i64 ((i : Nat) : Int)) (fun _ => rfl) e24 rfl ?_
      refine wl_mv (.tmp 26) (.int .i64 ((i : Nat) : Int)) (fun _ => rfl) rfl rfl ?_
      refine w_nil ?_
      refine xn_then ?_
      refine w_seq ?_
      refine w_reg ?_
      refine wl_mv (.tmp 0) (.string s) (fun _ => rfl) e0 rfl ?_
      refine wl_mv (.tmp 4) (.int .i64 ((i : Nat) : Int)) (fun _ => rfl) rfl rfl ?_
      refine wl_val (tx ((by8 s).take i)) (hi_run _ _ _ (by8 s) i (by exact rfl) (by exact rfl) (by rw [by8_len]; omega) _ _ _ _ _ _) rfl ?_
      refine wl_call 14 [(.tmp 30)] _ [tx ((by8 s).take i)] (.tuple #[.agg #[.bool b, .int .u64 (l0 N), .int .u64 (l1 N), .int .u64 (l2 N), .int .u64 (l3 N), .int .i64 ((k : Int))], .int .i64 (E)]) rfl rfl (fun _ _ => by kernel_rfl) (wk (h4 _)) rfl ?_
      intro w21 hq
      replace M := M.trans hq
      clear hq
      refine wl_mv (.tmp 31) (.tuple #[.agg #[.bool b, .int .u64 (l0 N), .int .u64 (l1 N), .int .u64 (l2 N), .int .u64 (l3 N), .int .i64 ((k : Int))], .int .i64 (E)]) (fun _ => rfl) rfl rfl ?_
      refine wl_un (fun v => Instr.extract v 0) (.tmp 27) (.tuple #[.agg #[.bool b, .int .u64 (l0 N), .int .u64 (l1 N), .int .u64 (l2 N), .int .u64 (l3 N), .int .i64 ((k : Int))], .int .i64 (E)]) (.agg #[.bool b, .int .u64 (l0 N), .int .u64 (l1 N), .int .u64 (l2 N), .int .u64 (l3 N), .int .i64 ((k : Int))]) (fun _ => rfl) rfl (by kernel_rfl) rfl ?_
      refine wl_un (fun v => Instr.extract v 1) (.tmp 27) (.tuple #[.agg #[.bool b, .int .u64 (l0 N), .int .u64 (l1 N), .int .u64 (l2 N), .int .u64 (l3 N), .int .i64 ((k : Int))], .int .i64 (E)]) (.int .i64 (E)) (fun _ => rfl) rfl (by kernel_rfl) rfl ?_
      refine wl_alloc 26 #[.bool false, .int .u64 0, .int .u64 0, .int .u64 0, .int .u64 0, .int .i64 0] rfl (fun _ => by kernel_rfl) rfl ?_
      intro k21 w22 hk hz hq Q21
      have N_k21 : w.heap.size ≤ k21 := by have := M.size; omega
      replace M := M.trans hq
      clear hk hz hq
      refine wl_st 26 (.tmp 5) (.tmp 32) k21 0 #[.bool b, .int .u64 (l0 N), .int .u64 (l1 N), .int .u64 (l2 N), .int .u64 (l3 N), .int .i64 ((k : Int))] [.bool false, .int .u64 0, .int .u64 0, .int .u64 0, .int .u64 0, .int .i64 0] [.bool b, .int .u64 (l0 N), .int .u64 (l1 N), .int .u64 (l2 N), .int .u64 (l3 N), .int .i64 ((k : Int))] Q21 rfl rfl rfl rfl rfl sz26 rfl rfl rfl ?_
      intro w23 hS Qn
      replace Q21 := Qn
      clear Qn
      replace M := hS.mo _ N_k21 M
      clear hS
      refine wl_mv (.tmp 33) (.int .i64 (E)) (fun _ => rfl) rfl rfl ?_
      refine w_nil ?_
      refine xn_then ?_
      refine w_seq ?_
      cases hf2 : (E == 30) with
      | true =>
        refine w_reg ?_
        refine wl_mv (.tmp 6) (.int .i64 (E)) (fun _ => rfl) rfl rfl ?_
        refine wl_bin (fun x y => do eqGuard .neq 30 (.tmp 34) (.const (.int .i64 (30))) x y; binOp .neq 30 x y) (.tmp 34) (.const (.int .i64 (30))) (.int .i64 (E)) (.int .i64 (30)) (.bool false) (fun _ => rfl) rfl rfl (neE30 (r := true) hf2 _ _ _) rfl ?_
        refine wl_mv (.tmp 35) (.bool false) (fun _ => rfl) rfl rfl ?_
        refine w_nil ?_
        refine xn_then ?_
        refine w_seq ?_
        cases hf3 : decide (i = pfx s) with
        | true =>
          have hf3p := of_decide_eq_true hf3
          cases hf4 : decide (0 < pfx s) with
          | true =>
            have hf4p := of_decide_eq_true hf4
            refine w_reg ?_
            refine wl_mv (.tmp 7) (.bool false) (fun _ => rfl) rfl rfl ?_
            refine wl_mv (.tmp 36) (.bool false) (fun _ => rfl) rfl rfl ?_
            refine wl_skip rfl ?_
            refine wl_skip rfl ?_
            refine wl_skip rfl ?_
            refine wl_pick (.tmp 37) (.tmp 40) (.const (.bool false)) false (.bool false) (fun _ => rfl) rfl rfl rfl ?_
            refine wl_mv (.tmp 41) (.bool false) (fun _ => rfl) rfl rfl ?_
            refine wl_mv (.tmp 4) (.int .i64 ((i : Nat) : Int)) (fun _ => rfl) rfl rfl ?_
            refine wl_mv (.tmp 3) (.int .i64 ((pfx s : Nat) : Int)) (fun _ => rfl) e3 rfl ?_
            refine wl_bin (fun x y => do eqGuard .eql 3 (.tmp 43) (.tmp 44) x y; binOp .eql 3 x y) (.tmp 43) (.tmp 44) (.int .i64 ((i : Nat) : Int)) (.int .i64 ((pfx s : Nat) : Int)) (.bool true) (fun _ => rfl) rfl rfl (eqN hf3 _ _ _) rfl ?_
            refine wl_mv (.tmp 45) (.bool true) (fun _ => rfl) rfl rfl ?_
            refine wl_mv (.tmp 3) (.int .i64 ((pfx s : Nat) : Int)) (fun _ => rfl) e3 rfl ?_
            refine wl_bin (fun x y => do eqGuard .gtr 3 (.tmp 47) (.const (.int .i64 (0))) x y; binOp .gtr 3 x y) (.tmp 47) (.const (.int .i64 (0))) (.int .i64 ((pfx s : Nat) : Int)) (.int .i64 (0)) (.bool true) (fun _ => rfl) rfl rfl (gtN hf4 _ _ _) rfl ?_
            refine wl_pick (.tmp 46) (.tmp 48) (.const (.bool false)) true (.bool true) (fun _ => rfl) rfl rfl rfl ?_
            refine wl_mv (.tmp 49) (.bool true) (fun _ => rfl) rfl rfl ?_
            refine wl_mv (.tmp 7) (.bool false) (fun _ => rfl) rfl rfl ?_
            refine wl_un (fun v => Op.unary .not v) (.tmp 51) (.bool false) (.bool true) (fun _ => rfl) rfl (by kernel_rfl) rfl ?_
            refine wl_pick (.tmp 50) (.tmp 52) (.const (.bool false)) true (.bool true) (fun _ => rfl) rfl rfl rfl ?_
            refine wl_pick (.tmp 42) (.const (.bool true)) (.tmp 53) false (.bool true) (fun _ => rfl) rfl rfl rfl ?_
            refine w_nil ?_
            refine xn_then ?_
            refine w_condT rfl ?_
            refine w_seq ?_
            refine w_reg ?_
            refine wl_mv (.const (.bool false)) (.bool false) (fun _ => rfl) rfl rfl ?_
            refine w_nil ?_
            refine xn_then ?_
            refine w_ret ?_
            refine xr_blk ?_
            refine xr_then ?_
            refine xr_then ?_
            refine xr_blk ?_
            refine xr_then ?_
            exact w_ret1 _ (.bool false) rfl rfl ⟨(by exfalso; rw [hf2] at h30; have hp := pfx_dec (s := s) (t := ⟨((by8 s).take (pfx s)).toArray⟩) rfl (by omega); rw [show i = pfx s by omega, hp] at h30; cases h30), M⟩
          | false =>
            have hf4p := of_decide_eq_false hf4
            refine w_reg ?_
            refine wl_mv (.tmp 7) (.bool false) (fun _ => rfl) rfl rfl ?_
            refine wl_mv (.tmp 36) (.bool false) (fun _ => rfl) rfl rfl ?_
            refine wl_skip rfl ?_
            refine wl_skip rfl ?_
            refine wl_skip rfl ?_
            refine wl_pick (.tmp 37) (.tmp 40) (.const (.bool false)) false (.bool false) (fun _ => rfl) rfl rfl rfl ?_
            refine wl_mv (.tmp 41) (.bool false) (fun _ => rfl) rfl rfl ?_
            refine wl_mv (.tmp 4) (.int .i64 ((i : Nat) : Int)) (fun _ => rfl) rfl rfl ?_
            refine wl_mv (.tmp 3) (.int .i64 ((pfx s : Nat) : Int)) (fun _ => rfl) e3 rfl ?_
            refine wl_bin (fun x y => do eqGuard .eql 3 (.tmp 43) (.tmp 44) x y; binOp .eql 3 x y) (.tmp 43) (.tmp 44) (.int .i64 ((i : Nat) : Int)) (.int .i64 ((pfx s : Nat) : Int)) (.bool true) (fun _ => rfl) rfl rfl (eqN hf3 _ _ _) rfl ?_
            refine wl_mv (.tmp 45) (.bool true) (fun _ => rfl) rfl rfl ?_
            refine wl_mv (.tmp 3) (.int .i64 ((pfx s : Nat) : Int)) (fun _ => rfl) e3 rfl ?_
            refine wl_bin (fun x y => do eqGuard .gtr 3 (.tmp 47) (.const (.int .i64 (0))) x y; binOp .gtr 3 x y) (.tmp 47) (.const (.int .i64 (0))) (.int .i64 ((pfx s : Nat) : Int)) (.int .i64 (0)) (.bool false) (fun _ => rfl) rfl rfl (gtN hf4 _ _ _) rfl ?_
            refine wl_pick (.tmp 46) (.tmp 48) (.const (.bool false)) true (.bool false) (fun _ => rfl) rfl rfl rfl ?_
            refine wl_mv (.tmp 49) (.bool false) (fun _ => rfl) rfl rfl ?_
            refine wl_skip rfl ?_
            refine wl_skip rfl ?_
            refine wl_pick (.tmp 50) (.tmp 52) (.const (.bool false)) false (.bool false) (fun _ => rfl) rfl rfl rfl ?_
            refine wl_pick (.tmp 42) (.const (.bool true)) (.tmp 53) false (.bool false) (fun _ => rfl) rfl rfl rfl ?_
            refine w_nil ?_
            refine xn_then ?_
            refine w_condF rfl ?_
            refine w_skip ?_
            refine xn_blk ?_
            refine xn_then ?_
            refine w_reg ?_
            refine wl_bin (fun x y => do eqGuard .add 3 (.tmp 24) (.const (.int .i64 (1))) x y; binOp .add 3 x y) (.tmp 24) (.const (.int .i64 (1))) (.int .i64 ((i : Nat) : Int)) (.int .i64 (1)) (.int .i64 ((i + 1 : Nat) : Int)) (fun _ => rfl) e24 rfl (add1r (k := i) (by omega) _ _ _) rfl ?_
            refine wl_mv (.tmp 55) (.int .i64 ((i + 1 : Nat) : Int)) (fun _ => rfl) rfl rfl ?_
            refine w_nil ?_
            exact xn_loop (s.size + 1 - (i + 1)) (by omega) ⟨i + 1, rfl, e0, e3, e23, rfl, by omega, M⟩
        | false =>
          have hf3p := of_decide_eq_false hf3
          refine w_reg ?_
          refine wl_mv (.tmp 7) (.bool false) (fun _ => rfl) rfl rfl ?_
          refine wl_mv (.tmp 36) (.bool false) (fun _ => rfl) rfl rfl ?_
          refine wl_skip rfl ?_
          refine wl_skip rfl ?_
          refine wl_skip rfl ?_
          refine wl_pick (.tmp 37) (.tmp 40) (.const (.bool false)) false (.bool false) (fun _ => rfl) rfl rfl rfl ?_
          refine wl_mv (.tmp 41) (.bool false) (fun _ => rfl) rfl rfl ?_
          refine wl_mv (.tmp 4) (.int .i64 ((i : Nat) : Int)) (fun _ => rfl) rfl rfl ?_
          refine wl_mv (.tmp 3) (.int .i64 ((pfx s : Nat) : Int)) (fun _ => rfl) e3 rfl ?_
          refine wl_bin (fun x y => do eqGuard .eql 3 (.tmp 43) (.tmp 44) x y; binOp .eql 3 x y) (.tmp 43) (.tmp 44) (.int .i64 ((i : Nat) : Int)) (.int .i64 ((pfx s : Nat) : Int)) (.bool false) (fun _ => rfl) rfl rfl (eqN hf3 _ _ _) rfl ?_
          refine wl_mv (.tmp 45) (.bool false) (fun _ => rfl) rfl rfl ?_
          refine wl_skip rfl ?_
          refine wl_skip rfl ?_
          refine wl_pick (.tmp 46) (.tmp 48) (.const (.bool false)) false (.bool false) (fun _ => rfl) rfl rfl rfl ?_
          refine wl_mv (.tmp 49) (.bool false) (fun _ => rfl) rfl rfl ?_
          refine wl_skip rfl ?_
          refine wl_skip rfl ?_
          refine wl_pick (.tmp 50) (.tmp 52) (.const (.bool false)) false (.bool false) (fun _ => rfl) rfl rfl rfl ?_
          refine wl_pick (.tmp 42) (.const (.bool true)) (.tmp 53) false (.bool false) (fun _ => rfl) rfl rfl rfl ?_
          refine w_nil ?_
          refine xn_then ?_
          refine w_condF rfl ?_
          refine w_skip ?_
          refine xn_blk ?_
          refine xn_then ?_
          refine w_reg ?_
          refine wl_bin (fun x y => do eqGuard .add 3 (.tmp 24) (.const (.int .i64 (1))) x y; binOp .add 3 x y) (.tmp 24) (.const (.int .i64 (1))) (.int .i64 ((i : Nat) : Int)) (.int .i64 (1)) (.int .i64 ((i + 1 : Nat) : Int)) (fun _ => rfl) e24 rfl (add1r (k := i) (by omega) _ _ _) rfl ?_
          refine wl_mv (.tmp 55) (.int .i64 ((i + 1 : Nat) : Int)) (fun _ => rfl) rfl rfl ?_
          refine w_nil ?_
          exact xn_loop (s.size + 1 - (i + 1)) (by omega) ⟨i + 1, rfl, e0, e3, e23, rfl, by omega, M⟩
      | false =>
        refine w_reg ?_
        refine wl_mv (.tmp 6) (.int .i64 (E)) (fun _ => rfl) rfl rfl ?_
        refine wl_bin (fun x y => do eqGuard .neq 30 (.tmp 34) (.const (.int .i64 (30))) x y; binOp .neq 30 x y) (.tmp 34) (.const (.int .i64 (30))) (.int .i64 (E)) (.int .i64 (30)) (.bool true) (fun _ => rfl) rfl rfl (neE30 (r := false) hf2 _ _ _) rfl ?_
        refine wl_mv (.tmp 35) (.bool true) (fun _ => rfl) rfl rfl ?_
        refine w_nil ?_
        refine xn_then ?_
        refine w_seq ?_
        cases hf3 : decide (pfx s < i) with
        | true =>
          have hf3p := of_decide_eq_true hf3
          refine w_reg ?_
          refine wl_mv (.tmp 7) (.bool true) (fun _ => rfl) rfl rfl ?_
          refine wl_mv (.tmp 36) (.bool true) (fun _ => rfl) rfl rfl ?_
          refine wl_mv (.tmp 4) (.int .i64 ((i : Nat) : Int)) (fun _ => rfl) rfl rfl ?_
          refine wl_mv (.tmp 3) (.int .i64 ((pfx s : Nat) : Int)) (fun _ => rfl) e3 rfl ?_
          refine wl_bin (fun x y => do eqGuard .gtr 3 (.tmp 38) (.tmp 39) x y; binOp .gtr 3 x y) (.tmp 38) (.tmp 39) (.int .i64 ((i : Nat) : Int)) (.int .i64 ((pfx s : Nat) : Int)) (.bool true) (fun _ => rfl) rfl rfl (gtN hf3 _ _ _) rfl ?_
          refine wl_pick (.tmp 37) (.tmp 40) (.const (.bool false)) true (.bool true) (fun _ => rfl) rfl rfl rfl ?_
          refine wl_mv (.tmp 41) (.bool true) (fun _ => rfl) rfl rfl ?_
          refine wl_skip rfl ?_
          refine wl_skip rfl ?_
          refine wl_skip rfl ?_
          refine wl_skip rfl ?_
          refine wl_skip rfl ?_
          refine wl_skip rfl ?_
          refine wl_skip rfl ?_
          refine wl_skip rfl ?_
          refine wl_skip rfl ?_
          refine wl_skip rfl ?_
          refine wl_skip rfl ?_
          refine wl_pick (.tmp 42) (.const (.bool true)) (.tmp 53) true (.bool true) (fun _ => rfl) rfl rfl rfl ?_
          refine w_nil ?_
          refine xn_then ?_
          refine w_condT rfl ?_
          refine w_seq ?_
          refine w_reg ?_
          refine wl_mv (.const (.bool false)) (.bool false) (fun _ => rfl) rfl rfl ?_
          refine w_nil ?_
          refine xn_then ?_
          refine w_ret ?_
          refine xr_blk ?_
          refine xr_then ?_
          refine xr_then ?_
          refine xr_blk ?_
          refine xr_then ?_
          exact w_ret1 _ (.bool false) rfl rfl ⟨(by exfalso; rw [hf2] at h30; have := pfx_ge (s := s) (i := i) (t := ⟨((by8 s).take i).toArray⟩) rfl (by omega) (by rw [← Bool.not_not (isDec _), ← h30]; rfl); omega), M⟩
        | false =>
          have hf3p := of_decide_eq_false hf3
          cases hf4 : decide (i = pfx s) with
          | true =>
            have hf4p := of_decide_eq_true hf4
            cases hf5 : decide (0 < pfx s) with
            | true =>
              have hf5p := of_decide_eq_true hf5
              refine w_reg ?_
              refine wl_mv (.tmp 7) (.bool true) (fun _ => rfl) rfl rfl ?_
              refine wl_mv (.tmp 36) (.bool true) (fun _ => rfl) rfl rfl ?_
              refine wl_mv (.tmp 4) (.int .i64 ((i : Nat) : Int)) (fun _ => rfl) rfl rfl ?_
              refine wl_mv (.tmp 3) (.int .i64 ((pfx s : Nat) : Int)) (fun _ => rfl) e3 rfl ?_
              refine wl_bin (fun x y => do eqGuard .gtr 3 (.tmp 38) (.tmp 39) x y; binOp .gtr 3 x y) (.tmp 38) (.tmp 39) (.int .i64 ((i : Nat) : Int)) (.int .i64 ((pfx s : Nat) : Int)) (.bool false) (fun _ => rfl) rfl rfl (gtN hf3 _ _ _) rfl ?_
              refine wl_pick (.tmp 37) (.tmp 40) (.const (.bool false)) true (.bool false) (fun _ => rfl) rfl rfl rfl ?_
              refine wl_mv (.tmp 41) (.bool false) (fun _ => rfl) rfl rfl ?_
              refine wl_mv (.tmp 4) (.int .i64 ((i : Nat) : Int)) (fun _ => rfl) rfl rfl ?_
              refine wl_mv (.tmp 3) (.int .i64 ((pfx s : Nat) : Int)) (fun _ => rfl) e3 rfl ?_
              refine wl_bin (fun x y => do eqGuard .eql 3 (.tmp 43) (.tmp 44) x y; binOp .eql 3 x y) (.tmp 43) (.tmp 44) (.int .i64 ((i : Nat) : Int)) (.int .i64 ((pfx s : Nat) : Int)) (.bool true) (fun _ => rfl) rfl rfl (eqN hf4 _ _ _) rfl ?_
              refine wl_mv (.tmp 45) (.bool true) (fun _ => rfl) rfl rfl ?_
              refine wl_mv (.tmp 3) (.int .i64 ((pfx s : Nat) : Int)) (fun _ => rfl) e3 rfl ?_
              refine wl_bin (fun x y => do eqGuard .gtr 3 (.tmp 47) (.const (.int .i64 (0))) x y; binOp .gtr 3 x y) (.tmp 47) (.const (.int .i64 (0))) (.int .i64 ((pfx s : Nat) : Int)) (.int .i64 (0)) (.bool true) (fun _ => rfl) rfl rfl (gtN hf5 _ _ _) rfl ?_
              refine wl_pick (.tmp 46) (.tmp 48) (.const (.bool false)) true (.bool true) (fun _ => rfl) rfl rfl rfl ?_
              refine wl_mv (.tmp 49) (.bool true) (fun _ => rfl) rfl rfl ?_
              refine wl_mv (.tmp 7) (.bool true) (fun _ => rfl) rfl rfl ?_
              refine wl_un (fun v => Op.unary .not v) (.tmp 51) (.bool true) (.bool false) (fun _ => rfl) rfl (by kernel_rfl) rfl ?_
              refine wl_pick (.tmp 50) (.tmp 52) (.const (.bool false)) true (.bool false) (fun _ => rfl) rfl rfl rfl ?_
              refine wl_pick (.tmp 42) (.const (.bool true)) (.tmp 53) false (.bool false) (fun _ => rfl) rfl rfl rfl ?_
              refine w_nil ?_
              refine xn_then ?_
              refine w_condF rfl ?_
              refine w_skip ?_
              refine xn_blk ?_
              refine xn_then ?_
              refine w_reg ?_
              refine wl_bin (fun x y => do eqGuard .add 3 (.tmp 24) (.const (.int .i64 (1))) x y; binOp .add 3 x y) (.tmp 24) (.const (.int .i64 (1))) (.int .i64 ((i : Nat) : Int)) (.int .i64 (1)) (.int .i64 ((i + 1 : Nat) : Int)) (fun _ => rfl) e24 rfl (add1r (k := i) (by omega) _ _ _) rfl ?_
              refine wl_mv (.tmp 55) (.int .i64 ((i + 1 : Nat) : Int)) (fun _ => rfl) rfl rfl ?_
              refine w_nil ?_
              exact xn_loop (s.size + 1 - (i + 1)) (by omega) ⟨i + 1, rfl, e0, e3, e23, rfl, by omega, M⟩
            | false =>
              have hf5p := of_decide_eq_false hf5
              refine w_reg ?_
              refine wl_mv (.tmp 7) (.bool true) (fun _ => rfl) rfl rfl ?_
              refine wl_mv (.tmp 36) (.bool true) (fun _ => rfl) rfl rfl ?_
              refine wl_mv (.tmp 4) (.int .i64 ((i : Nat) : Int)) (fun _ => rfl) rfl rfl ?_
              refine wl_mv (.tmp 3) (.int .i64 ((pfx s : Nat) : Int)) (fun _ => rfl) e3 rfl ?_
              refine wl_bin (fun x y => do eqGuard .gtr 3 (.tmp 38) (.tmp 39) x y; binOp .gtr 3 x y) (.tmp 38) (.tmp 39) (.int .i64 ((i : Nat) : Int)) (.int .i64 ((pfx s : Nat) : Int)) (.bool false) (fun _ => rfl) rfl rfl (gtN hf3 _ _ _) rfl ?_
              refine wl_pick (.tmp 37) (.tmp 40) (.const (.bool false)) true (.bool false) (fun _ => rfl) rfl rfl rfl ?_
              refine wl_mv (.tmp 41) (.bool false) (fun _ => rfl) rfl rfl ?_
              refine wl_mv (.tmp 4) (.int .i64 ((i : Nat) : Int)) (fun _ => rfl) rfl rfl ?_
              refine wl_mv (.tmp 3) (.int .i64 ((pfx s : Nat) : Int)) (fun _ => rfl) e3 rfl ?_
              refine wl_bin (fun x y => do eqGuard .eql 3 (.tmp 43) (.tmp 44) x y; binOp .eql 3 x y) (.tmp 43) (.tmp 44) (.int .i64 ((i : Nat) : Int)) (.int .i64 ((pfx s : Nat) : Int)) (.bool true) (fun _ => rfl) rfl rfl (eqN hf4 _ _ _) rfl ?_
              refine wl_mv (.tmp 45) (.bool true) (fun _ => rfl) rfl rfl ?_
              refine wl_mv (.tmp 3) (.int .i64 ((pfx s : Nat) : Int)) (fun _ => rfl) e3 rfl ?_
              refine wl_bin (fun x y => do eqGuard .gtr 3 (.tmp 47) (.const (.int .i64 (0))) x y; binOp .gtr 3 x y) (.tmp 47) (.const (.int .i64 (0))) (.int .i64 ((pfx s : Nat) : Int)) (.int .i64 (0)) (.bool false) (fun _ => rfl) rfl rfl (gtN hf5 _ _ _) rfl ?_
              refine wl_pick (.tmp 46) (.tmp 48) (.const (.bool false)) true (.bool false) (fun _ => rfl) rfl rfl rfl ?_
              refine wl_mv (.tmp 49) (.bool false) (fun _ => rfl) rfl rfl ?_
              refine wl_skip rfl ?_
              refine wl_skip rfl ?_
              refine wl_pick (.tmp 50) (.tmp 52) (.const (.bool false)) false (.bool false) (fun _ => rfl) rfl rfl rfl ?_
              refine wl_pick (.tmp 42) (.const (.bool true)) (.tmp 53) false (.bool false) (fun _ => rfl) rfl rfl rfl ?_
              refine w_nil ?_
              refine xn_then ?_
              refine w_condF rfl ?_
              refine w_skip ?_
              refine xn_blk ?_
              refine xn_then ?_
              refine w_reg ?_
              refine wl_bin (fun x y => do eqGuard .add 3 (.tmp 24) (.const (.int .i64 (1))) x y; binOp .add 3 x y) (.tmp 24) (.const (.int .i64 (1))) (.int .i64 ((i : Nat) : Int)) (.int .i64 (1)) (.int .i64 ((i + 1 : Nat) : Int)) (fun _ => rfl) e24 rfl (add1r (k := i) (by omega) _ _ _) rfl ?_
              refine wl_mv (.tmp 55) (.int .i64 ((i + 1 : Nat) : Int)) (fun _ => rfl) rfl rfl ?_
              refine w_nil ?_
              exact xn_loop (s.size + 1 - (i + 1)) (by omega) ⟨i + 1, rfl, e0, e3, e23, rfl, by omega, M⟩
          | false =>
            have hf4p := of_decide_eq_false hf4
            refine w_reg ?_
            refine wl_mv (.tmp 7) (.bool true) (fun _ => rfl) rfl rfl ?_
            refine wl_mv (.tmp 36) (.bool true) (fun _ => rfl) rfl rfl ?_
            refine wl_mv (.tmp 4) (.int .i64 ((i : Nat) : Int)) (fun _ => rfl) rfl rfl ?_
            refine wl_mv (.tmp 3) (.int .i64 ((pfx s : Nat) : Int)) (fun _ => rfl) e3 rfl ?_
            refine wl_bin (fun x y => do eqGuard .gtr 3 (.tmp 38) (.tmp 39) x y; binOp .gtr 3 x y) (.tmp 38) (.tmp 39) (.int .i64 ((i : Nat) : Int)) (.int .i64 ((pfx s : Nat) : Int)) (.bool false) (fun _ => rfl) rfl rfl (gtN hf3 _ _ _) rfl ?_
            refine wl_pick (.tmp 37) (.tmp 40) (.const (.bool false)) true (.bool false) (fun _ => rfl) rfl rfl rfl ?_
            refine wl_mv (.tmp 41) (.bool false) (fun _ => rfl) rfl rfl ?_
            refine wl_mv (.tmp 4) (.int .i64 ((i : Nat) : Int)) (fun _ => rfl) rfl rfl ?_
            refine wl_mv (.tmp 3) (.int .i64 ((pfx s : Nat) : Int)) (fun _ => rfl) e3 rfl ?_
            refine wl_bin (fun x y => do eqGuard .eql 3 (.tmp 43) (.tmp 44) x y; binOp .eql 3 x y) (.tmp 43) (.tmp 44) (.int .i64 ((i : Nat) : Int)) (.int .i64 ((pfx s : Nat) : Int)) (.bool false) (fun _ => rfl) rfl rfl (eqN hf4 _ _ _) rfl ?_
            refine wl_mv (.tmp 45) (.bool false) (fun _ => rfl) rfl rfl ?_
            refine wl_skip rfl ?_
            refine wl_skip rfl ?_
            refine wl_pick (.tmp 46) (.tmp 48) (.const (.bool false)) false (.bool false) (fun _ => rfl) rfl rfl rfl ?_
            refine wl_mv (.tmp 49) (.bool false) (fun _ => rfl) rfl rfl ?_
            refine wl_skip rfl ?_
            refine wl_skip rfl ?_
            refine wl_pick (.tmp 50) (.tmp 52) (.const (.bool false)) false (.bool false) (fun _ => rfl) rfl rfl rfl ?_
            refine wl_pick (.tmp 42) (.const (.bool true)) (.tmp 53) false (.bool false) (fun _ => rfl) rfl rfl rfl ?_
            refine w_nil ?_
            refine xn_then ?_
            refine w_condF rfl ?_
            refine w_skip ?_
            refine xn_blk ?_
            refine xn_then ?_
            refine w_reg ?_
            refine wl_bin (fun x y => do eqGuard .add 3 (.tmp 24) (.const (.int .i64 (1))) x y; binOp .add 3 x y) (.tmp 24) (.const (.int .i64 (1))) (.int .i64 ((i : Nat) : Int)) (.int .i64 (1)) (.int .i64 ((i + 1 : Nat) : Int)) (fun _ => rfl) e24 rfl (add1r (k := i) (by omega) _ _ _) rfl ?_
            refine wl_mv (.tmp 55) (.int .i64 ((i + 1 : Nat) : Int)) (fun _ => rfl) rfl rfl ?_
            refine w_nil ?_
            exact xn_loop (s.size + 1 - (i + 1)) (by omega) ⟨i + 1, rfl, e0, e3, e23, rfl, by omega, M⟩
    | false =>
      have hf1p := of_decide_eq_false hf1
      refine w_reg ?_
      refine wl_bin (fun x y => do eqGuard .lss 3 (.tmp 24) (.tmp 23) x y; binOp .lss 3 x y) (.tmp 24) (.tmp 23) (.int .i64 ((i : Nat) : Int)) (.int .i64 ((s.size + 1 : Nat) : Int)) (.bool false) (fun _ => rfl) e24 e23 (ltN hf1 _ _ _) rfl ?_
      refine w_nil ?_
      refine xn_then ?_
      refine w_seq ?_
      refine w_condF rfl ?_
      refine w_exit ?_
      refine xx_then ?_
      refine xx_then ?_
      refine xx_blk ?_
      refine xn_then ?_
      refine w_seq ?_
      refine w_reg ?_
      refine wl_mv (.const (.bool true)) (.bool true) (fun _ => rfl) rfl rfl ?_
      refine w_nil ?_
      refine xn_then ?_
      refine w_ret ?_
      exact w_ret1 _ (.bool true) rfl rfl ⟨rfl, M⟩
end Go.Proofs.YtdcojpbgijkmgaaDoor.V
/-
  An array of four limbs that came in: how it is opened and shut.
-/
namespace Go.Proofs.YtdcojpbgijkmgaaDoor
open Go.ChangeShapes Go.WideShapes Go.ChangeAt Go.RowKit
theorem Tryd.own : ownKnob Tryd.prog.godebug = none := by kernel_rfl
theorem Tryd.cl22 : Tryd.prog.cellsOf 22 = 1 := by kernel_rfl
theorem Tryd.cl24 : Tryd.prog.cellsOf 24 = 4 := by kernel_rfl
theorem wf_u1 {x : Int} (h : (Lit.int .u64 x).wf = true) : U1 x := by
  simp [Lit.wf, IntKind.min, IntKind.max, IntKind.signed, IntKind.bits] at h
  exact ⟨by omega, by omega⟩
set_option maxRecDepth 100000 in
theorem open_nat {H : Type} {enc : TypeId × Value → H} {W : World} {base : Nat} {v : Value} {d : DataW H} {p : List MemPlace} (hv : Value.okWide Tryd.prog W .any base 24 v) (h : DataW.Trod enc Tryd.prog W 0 (fun _ => true) true 24 v d p) :
    ∃ x0 x1 x2 x3 : Int, v = .agg #[.int .u64 x0, .int .u64 x1, .int .u64 x2, .int .u64 x3] ∧ d = .agg [.lit (.int .u64 x0), .lit (.int .u64 x1), .lit (.int .u64 x2), .lit (.int .u64 x3)] ∧ p = [] ∧ U4 x0 x1 x2 x3 ∧
      ∀ (W' : World) (sp : Nat → Bool), DataW.Trod enc Tryd.prog W' 0 sp true 24 v d [] := by
  obtain ⟨cs, rfl, hsz, _⟩ : ∃ cs, v = .agg cs ∧ cs.size = Tryd.prog.cellsOf 24 ∧ Row.okWide Tryd.prog W .any base 24 cs := by
    simpa [Value.okWide, Tryd.underlying24] using hv
  rw [Tryd.cl24] at hsz
  obtain ⟨c0, c1, c2, c3, rfl⟩ := Go.Joins.array4 hsz
  obtain ⟨fuel, hf⟩ := h
  obtain ⟨xs, m, rfl, hx, _, hn, hi⟩ := DataW.trod_array Tryd.underlying24 hf
  have i0 := hi 0 (by decide)
  have i1 := hi 1 (by decide)
  have i2 := hi 2 (by decide)
  have i3 := hi 3 (by decide)
  simp only [Tryd.cl22, Value.cells] at i0 i1 i2 i3
  obtain ⟨y0, y1, y2, y3, rfl⟩ : ∃ y0 y1 y2 y3, xs = [y0, y1, y2, y3] := by
    match xs, hn with
    | [a, b, c, d], _ => exact ⟨a, b, c, d, rfl⟩
  simp at i0 i1 i2 i3
  obtain ⟨x0, e0, rfl, w0⟩ := DataW.trod_int Tryd.underlying22 i0
  obtain ⟨x1, e1, rfl, w1⟩ := DataW.trod_int Tryd.underlying22 i1
  obtain ⟨x2, e2, rfl, w2⟩ := DataW.trod_int Tryd.underlying22 i2
  obtain ⟨x3, e3, rfl, w3⟩ := DataW.trod_int Tryd.underlying22 i3
  simp at e0 e1 e2 e3
  subst e0 e1 e2 e3
  simp at hx
  obtain ⟨rfl, rfl⟩ := hx
  refine ⟨x0, x1, x2, x3, rfl, rfl, rfl, ⟨wf_u1 w0, wf_u1 w1, wf_u1 w2, wf_u1 w3⟩, fun W' sp => ⟨2, ?_⟩⟩
  simp [DataW.trod, Value.cells, Tryd.underlying24, Tryd.underlying22, Tryd.cl24, Tryd.cl22, w0, w1, w2, w3, show List.range 4 = [0, 1, 2, 3] from rfl]
end Go.Proofs.YtdcojpbgijkmgaaDoor
/-
  A decimal that came in: how it is opened and shut.
-/
namespace Go.Proofs.YtdcojpbgijkmgaaDoor
open Go.ChangeShapes Go.WideShapes Go.ChangeAt Go.RowKit
theorem Tryd.cl40 : Tryd.prog.cellsOf 26 = 6 := by kernel_rfl
theorem Tryd.cl4 : Tryd.prog.cellsOf 4 = 1 := by kernel_rfl
theorem Tryd.cl3 : Tryd.prog.cellsOf 3 = 1 := by kernel_rfl
theorem wf_i1 {x : Int} (h : (Lit.int .i64 x).wf = true) : -9223372036854775808 ≤ x ∧ x < 9223372036854775808 := by
  simp [Lit.wf, IntKind.min, IntKind.max, IntKind.signed, IntKind.bits] at h
  exact ⟨by omega, by omega⟩
set_option maxRecDepth 100000 in
theorem open_dec {H : Type} {enc : TypeId × Value → H} {W : World} {base : Nat} {v : Value} {d : DataW H} {p : List MemPlace} (hv : Value.okWide Tryd.prog W .any base 26 v) (h : DataW.Trod enc Tryd.prog W 0 (fun _ => true) true 26 v d p) :
    ∃ (b : Bool) (x0 x1 x2 x3 s : Int), v = .agg #[.bool b, .int .u64 x0, .int .u64 x1, .int .u64 x2, .int .u64 x3, .int .i64 s] ∧ p = [] ∧ U4 x0 x1 x2 x3 ∧ (-9223372036854775808 ≤ s ∧ s < 9223372036854775808) ∧
      ∀ (W' : World) (sp : Nat → Bool), DataW.Trod enc Tryd.prog W' 0 sp true 26 v d [] := by
  obtain ⟨cs, rfl, hsz, _⟩ : ∃ cs, v = .agg cs ∧ cs.size = Tryd.prog.cellsOf 26 ∧ Row.okWide Tryd.prog W .any base 26 cs := by
    simpa [Value.okWide, Tryd.underlying26] using hv
  rw [Tryd.cl40] at hsz
  obtain ⟨c0, c1, c2, c3, c4, c5, rfl⟩ : ∃ c0 c1 c2 c3 c4 c5, cs = #[c0, c1, c2, c3, c4, c5] := by
    obtain ⟨l⟩ := cs
    match l, hsz with
    | [a, b, c, d, e, f], _ => exact ⟨a, b, c, d, e, f, rfl⟩
  obtain ⟨fuel, hf⟩ := h
  obtain ⟨xs, n, rfl, hx, _, hlen, hi⟩ := DataW.trod_struct Tryd.underlying26 hf
  obtain ⟨y0, y1, y2, rfl⟩ : ∃ y0 y1 y2, xs = [y0, y1, y2] := by
    match xs, hlen with
    | [a, b, c], _ => exact ⟨a, b, c, rfl⟩
  have i0 := hi 0 _ rfl
  have i1 := hi 1 _ rfl
  have i2 := hi 2 _ rfl
  simp [Tryd.cl4, Tryd.cl24, Tryd.cl3, Value.cells] at i0 i1 i2
  obtain ⟨b, e0, rfl⟩ := DataW.trod_bool Tryd.underlying4 i0
  obtain ⟨s, e5, rfl, w5⟩ := DataW.trod_int Tryd.underlying3 i2
  obtain ⟨zs, m, rfl, hz, _, hn, hj⟩ := DataW.trod_array Tryd.underlying24 i1
  have j0 := hj 0 (by decide)
  have j1 := hj 1 (by decide)
  have j2 := hj 2 (by decide)
  have j3 := hj 3 (by decide)
  simp only [Tryd.cl22] at j0 j1 j2 j3
  obtain ⟨z0, z1, z2, z3, rfl⟩ : ∃ z0 z1 z2 z3, zs = [z0, z1, z2, z3] := by
    match zs, hn with
    | [a, b, c, d], _ => exact ⟨a, b, c, d, rfl⟩
  simp at j0 j1 j2 j3
  obtain ⟨x0, e1, rfl, w0⟩ := DataW.trod_int Tryd.underlying22 j0
  obtain ⟨x1, e2, rfl, w1⟩ := DataW.trod_int Tryd.underlying22 j1
  obtain ⟨x2, e3, rfl, w2⟩ := DataW.trod_int Tryd.underlying22 j2
  obtain ⟨x3, e4, rfl, w3⟩ := DataW.trod_int Tryd.underlying22 j3
  simp at e0 e1 e2 e3 e4 e5
  subst e0 e1 e2 e3 e4 e5
  subst hz
  simp at hx
  obtain ⟨rfl, rfl⟩ := hx
  refine ⟨b, x0, x1, x2, x3, s, rfl, rfl, ⟨wf_u1 w0, wf_u1 w1, wf_u1 w2, wf_u1 w3⟩, wf_i1 w5, fun W' sp => ⟨3, ?_⟩⟩
  simp [DataW.trod, Value.cells, Tryd.underlying26, Tryd.underlying24, Tryd.underlying22, Tryd.underlying4, Tryd.underlying3, Tryd.cl40, Tryd.cl24, Tryd.cl22, Tryd.cl4, Tryd.cl3, w0, w1, w2, w3, w5, show List.range 4 = [0, 1, 2, 3] from rfl]
end Go.Proofs.YtdcojpbgijkmgaaDoor
/-
  A whole number and a decimal that came in.
-/
namespace Go.Proofs.YtdcojpbgijkmgaaDoor
open Go.ChangeShapes Go.WideShapes Go.ChangeAt Go.RowKit
set_option maxRecDepth 100000 in
theorem open_i64 {H : Type} {enc : TypeId × Value → H} {W : World} {base : Nat} {T : TypeId} {v : Value} {d : DataW H} {p : List MemPlace} (hu : Tryd.prog.underlying T = some (.int .i64)) (hv : Value.okWide Tryd.prog W .any base T v) (h : DataW.Trod enc Tryd.prog W 0 (fun _ => true) true T v d p) :
    ∃ x : Int, v = .int .i64 x ∧ p = [] ∧ (-9223372036854775808 ≤ x ∧ x < 9223372036854775808) ∧
      ∀ (W' : World) (sp : Nat → Bool), DataW.Trod enc Tryd.prog W' 0 sp true T v d [] := by
  obtain ⟨n, rfl, rfl, rfl, hw⟩ := open_int hu hv h
  exact ⟨n, rfl, rfl, wf_i1 hw, fun W' sp => shut_int hu hw⟩
theorem dc_vl {b : Bool} {s x0 x1 x2 x3 : Int} (h : U4 x0 x1 x2 x3) : dc b (vl x0 x1 x2 x3) s = .agg #[.bool b, .int .u64 x0, .int .u64 x1, .int .u64 x2, .int .u64 x3, .int .i64 s] := by
  have := nv_vl h
  simp at this
  obtain ⟨a, b, c, d⟩ := this
  unfold dc
  rw [a, b, c, d]
end Go.Proofs.YtdcojpbgijkmgaaDoor
/-
  A world in which the library's two tables lie; the end of a row over a law that leaves what was there as it was.
-/
namespace Go.Proofs.YtdcojpbgijkmgaaDoor
open Go.ChangeShapes Go.WideShapes Go.ChangeAt Go.RowKit Go.ChangeMaps
def firstCells : Array Value := #[.int .u8 240, .int .u8 240, .int .u8 240, .int .u8 240, .int .u8 240, .int .u8 240, .int .u8 240, .int .u8 240, .int .u8 240, .int .u8 240, .int .u8 240, .int .u8 240, .int .u8 240, .int .u8 240, .int .u8 240, .int .u8 240, .int .u8 240, .int .u8 240, .int .u8 240, .int .u8 240, .int .u8 240, .int .u8 240, .int .u8 240, .int .u8 240, .int .u8 240, .int .u8 240, .int .u8 240, .int .u8 240, .int .u8 240, .int .u8 240, .int .u8 240, .int .u8 240, .int .u8 240, .int .u8 240, .int .u8 240, .int .u8 240, .int .u8 240, .int .u8 240, .int .u8 240, .int .u8 240, .int .u8 240, .int .u8 240, .int .u8 240, .int .u8 240, .int .u8 240, .int .u8 240, .int .u8 240, .int .u8 240, .int .u8 240, .int .u8 240, .int .u8 240, .int .u8 240, .int .u8 240, .int .u8 240, .int .u8 240, .int .u8 240, .int .u8 240, .int .u8 240, .int .u8 240, .int .u8 240, .int .u8 240, .int .u8 240, .int .u8 240, .int .u8 240, .int .u8 240, .int .u8 240, .int .u8 240, .int .u8 240, .int .u8 240, .int .u8 240, .int .u8 240, .int .u8 240, .int .u8 240, .int .u8 240, .int .u8 240, .int .u8 240, .int .u8 240, .int .u8 240, .int .u8 240, .int .u8 240, .int .u8 240, .int .u8 240, .int .u8 240, .int .u8 240, .int .u8 240, .int .u8 240, .int .u8 240, .int .u8 240, .int .u8 240, .int .u8 240, .int .u8 240, .int .u8 240, .int .u8 240, .int .u8 240, .int .u8 240, .int .u8 240, .int .u8 240, .int .u8 240, .int .u8 240, .int .u8 240, .int .u8 240, .int .u8 240, .int .u8 240, .int .u8 240, .int .u8 240, .int .u8 240, .int .u8 240, .int .u8 240, .int .u8 240, .int .u8 240, .int .u8 240, .int .u8 240, .int .u8 240, .int .u8 240, .int .u8 240, .int .u8 240, .int .u8 240, .int .u8 240, .int .u8 240, .int .u8 240, .int .u8 240, .int .u8 240, .int .u8 240, .int .u8 240, .int .u8 240, .int .u8 240, .int .u8 240, .int .u8 240, .int .u8 241, .int .u8 241, .int .u8 241, .int .u8 241, .int .u8 241, .int .u8 241, .int .u8 241, .int .u8 241, .int .u8 241, .int .u8 241, .int .u8 241, .int .u8 241, .int .u8 241, .int .u8 241, .int .u8 241, .int .u8 241, .int .u8 241, .int .u8 241, .int .u8 241, .int .u8 241, .int .u8 241, .int .u8 241, .int .u8 241, .int .u8 241, .int .u8 241, .int .u8 241, .int .u8 241, .int .u8 241, .int .u8 241, .int .u8 241, .int .u8 241, .int .u8 241, .int .u8 241, .int .u8 241, .int .u8 241, .int .u8 241, .int .u8 241, .int .u8 241, .int .u8 241, .int .u8 241, .int .u8 241, .int .u8 241, .int .u8 241, .int .u8 241, .int .u8 241, .int .u8 241, .int .u8 241, .int .u8 241, .int .u8 241, .int .u8 241, .int .u8 241, .int .u8 241, .int .u8 241, .int .u8 241, .int .u8 241, .int .u8 241, .int .u8 241, .int .u8 241, .int .u8 241, .int .u8 241, .int .u8 241, .int .u8 241, .int .u8 241, .int .u8 241, .int .u8 241, .int .u8 241, .int .u8 2, .int .u8 2, .int .u8 2, .int .u8 2, .int .u8 2, .int .u8 2, .int .u8 2, .int .u8 2, .int .u8 2, .int .u8 2, .int .u8 2, .int .u8 2, .int .u8 2, .int .u8 2, .int .u8 2, .int .u8 2, .int .u8 2, .int .u8 2, .int .u8 2, .int .u8 2, .int .u8 2, .int .u8 2, .int .u8 2, .int .u8 2, .int .u8 2, .int .u8 2, .int .u8 2, .int .u8 2, .int .u8 2, .int .u8 2, .int .u8 19, .int .u8 3, .int .u8 3, .int .u8 3, .int .u8 3, .int .u8 3, .int .u8 3, .int .u8 3, .int .u8 3, .int .u8 3, .int .u8 3, .int .u8 3, .int .u8 3, .int .u8 35, .int .u8 3, .int .u8 3, .int .u8 52, .int .u8 4, .int .u8 4, .int .u8 4, .int .u8 68, .int .u8 241, .int .u8 241, .int .u8 241, .int .u8 241, .int .u8 241, .int .u8 241, .int .u8 241, .int .u8 241, .int .u8 241, .int .u8 241, .int .u8 241]
def acceptCells : Array Value := #[.int .u8 128, .int .u8 191, .int .u8 160, .int .u8 191, .int .u8 128, .int .u8 159, .int .u8 144, .int .u8 191, .int .u8 128, .int .u8 143, .int .u8 0, .int .u8 0, .int .u8 0, .int .u8 0, .int .u8 0, .int .u8 0, .int .u8 0, .int .u8 0, .int .u8 0, .int .u8 0, .int .u8 0, .int .u8 0, .int .u8 0, .int .u8 0, .int .u8 0, .int .u8 0, .int .u8 0, .int .u8 0, .int .u8 0, .int .u8 0, .int .u8 0, .int .u8 0]
def layW (w0 : World) : World :=
  { w0 with heap := (w0.heap.modify 3 fun
      | .cells _ t frozen => .cells firstCells t frozen
      | o => o).modify 4 fun
      | .cells _ t frozen => .cells acceptCells t frozen
      | o => o }
set_option maxRecDepth 100000 in
theorem laidWorld_met (os : Os) (args : Array Value) : laidMetH Tryd.prog Rows.dectextTextsRow.laid ((layW (World.holding Tryd.prog os ⟨#[], #[], []⟩)).forCall (fun _ _ => 0) ⟨#[], args, []⟩).memory := by
  show laidMet Tryd.prog [("unicode/utf8.acceptRanges", Rows.laid_unicode_utf8_acceptRanges), ("unicode/utf8.first", Rows.laid_unicode_utf8_first)] _
  exact (LaidIn.of_run [3, 4] 8 (by kernel_rfl) (by kernel_rfl) (by kernel_rfl) (by kernel_rfl)).met
/-- The end of a row: no argument has memory of its own, nothing that was there has turned. -/
theorem post_mw {H : Type} {enc : TypeId × Value → H} {P : Program} {f : Func} {s : ChangeSpec} {apart fresh handsOn : Bool} {W W' : World} {args : Array Value} {v : Value} {ds gs : List (DataW H)}
    (hW : DataW.Whole enc P f.params.toList s.vars apart W args.toList ds gs [])
    (hres : ∀ (b : Nat) (sp : Nat → Bool) (hd : Bool), DataW.TrodAll enc P W' b sp hd f.resultTypes.toList (v.resultList f.resultTypes.size) (s.fn H (ds ++ gs)).results [])
    (hargs : ∀ sp : Nat → Bool, DataW.TrodAll enc P W' 0 sp true f.params.toList args.toList (s.fn H (ds ++ gs)).args [])
    (hvars : ∀ sp : Nat → Bool, DataW.TrodVars enc P W' sp s.vars (s.fn H (ds ++ gs)).vars []) (hk : V.Mw W W') :
    s.post enc P f apart fresh handsOn false W args v W' :=
  ⟨ds, gs, [], [], [], [], hW, hres _ _ _, hargs _, hvars _, Below.frame hk _, fun h => by cases h⟩
end Go.Proofs.YtdcojpbgijkmgaaDoor
namespace Go.Proofs.YtdcojpbgijkmgaaDoor
open Go.ChangeShapes Go.WideShapes Go.ChangeAt Go.RowKit Go.ChangeMaps
set_option maxHeartbeats 1000000 in
set_option maxRecDepth 100000 in
theorem dectextPrefix_lifted (os : Os) (started : os.Started) (H : Type) (enc : TypeId × Value → H) :
    ReturnsInHanded {} Tryd.checked os 5 .any (fun w args => (Rows.dectextPrefixSpec.pre enc Tryd.prog Tryd.f5 [] false w args ∧ laidMetH Tryd.prog Rows.dectextPrefixRow.laid w) ∧ sizedMet enc Tryd.prog Tryd.f5 (OpenSpec.ofChange Rows.dectextPrefixSpec) false w args)
      (Rows.dectextPrefixSpec.post enc Tryd.prog Tryd.f5 false true false false) := by
  refine returnsInHanded_of_change_and (C := Tryd.checked) (X := fun w _ => laidMetH Tryd.prog Rows.dectextPrefixRow.laid w) (fun _ _ _ hh h => h.of_heap hh) Tryd.own started (by kernel_rfl) Tryd.func5
    (ChangeSpec.witness_at (enc := enc) (C := Tryd.checked) (os := os) (X := fun w _ => laidMetH Tryd.prog Rows.dectextPrefixRow.laid w) false (layW (World.holding Tryd.prog os ⟨#[], #[], []⟩)) #[.string ⟨#[]⟩] 8 rfl (by kernel_rfl) (by kernel_rfl) (by kernel_rfl) (by kernel_rfl) (by kernel_rfl) (laidWorld_met os _)) ?_
  intro W base args ds gs before hval0 hW _ hsz0 hL _
  have hval : ∀ (j : Nat) t v, Tryd.f5.params[j]? = some t → args[j]? = some v → Value.okWide Tryd.prog W .any base t v := hval0
  have hW' := hW
  obtain ⟨p, q, hA0, hV, rfl, hfz, hnd⟩ := hW
  have hA : DataW.TrodAll enc Tryd.prog W 0 (fun _ => true) true Tryd.f5.params.toList args.toList ds p := hA0
  rw [Tryd.params5] at hA hval
  obtain ⟨v0, d0, rfl, rfl, h0⟩ := trodAll_one hA
  obtain ⟨rfl, rfl⟩ := trodVars_none hV
  obtain ⟨s0, rfl, rfl, rfl, sb0⟩ := open_string Tryd.underlying9 (hval 0 9 v0 rfl rfl) h0
  have r0 : ∀ (W' : World) (sp : Nat → Bool), DataW.Trod enc Tryd.prog W' 0 sp true 9 (.string s0) (.lit (.string s0.data.toList)) [] := fun _ _ => shut_string Tryd.underlying9 sb0
  have z0 : s0.size ≤ 140737488355328 := by
    have h := sized_string hsz0 (j := 0) (t := 9) (by kernel_rfl) rfl
    rw [by8_len] at h
    unfold reachBytes at h
    omega
  clear hA0 hval0
  simp only [List.append_nil] at hW'
  refine (V.dprefix_n s0 W z0).mono fun e W' ⟨he, hg⟩ => ?_
  subst he
  exact ⟨_, rfl, post_mw hW' (fun _ _ _ => trodAll_mk1 (shut_bool Tryd.underlying4 _)) (fun sp => trodAll_mk1 (r0 _ sp)) (fun _ => rfl) hg⟩
set_option maxRecDepth 100000 in
theorem dectextPrefix_row : Rows.DectextPrefixSaid :=
  OpenClaim.holds_of_wide 5 Tryd.f5 rfl rfl rfl rfl rfl rfl rfl ⟨rfl, rfl, rfl, rfl, rfl⟩ rfl rfl rfl rfl rfl (by kernel_rfl) Tryd.func5 (by kernel_rfl)
    (of_decide_eq_true (by kernel_rfl)) (by unfold Func.isWrapper; rw [if_neg (of_decide_eq_false (by kernel_rfl))]; exact ⟨rfl, rfl⟩)
    (fun os started H enc _ => dectextPrefix_lifted os started H enc)
set_option maxRecDepth 100000 in
theorem dectextPrefix_holds : Rows.DectextPrefixCardSaid :=
  Claim7.holds_tied_plain_at .later [] [.data, .pinned] true (true, "ad9bf9484b846ad32c643a4ddb69c760fddb7cd4ef7f69a1332e2087753a176c") false
    dectextPrefix_row (fun _ h => by cases h) (by kernel_rfl) (fun _ h => by cases h) dectextPrefix_row_tie rfl ⟨rfl, rfl⟩ (by kernel_rfl) rfl
    (fun f fn hf hfn => by
      obtain rfl : f = 5 := Option.some.inj ((show Tryd.prog.funcNamed "excise/exciselaw03.DectextPrefix" = some 5 by kernel_rfl).symm.trans hf) |>.symm
      obtain rfl : fn = Tryd.f5 := (Option.some.inj (Tryd.func5.symm.trans hfn)).symm
      exact ⟨by kernel_rfl, fun j t ht => by
        rw [Tryd.params5] at ht
        have h3 : t = 9 := by
          rcases j with _ | j
          · simpa using ht.symm
          · simp at ht
        subst h3
        exact (show Tryd.prog.wantsStandIn 9 = false by kernel_rfl)⟩)
    (by kernel_rfl)
#print axioms dectextPrefix_holds
end Go.Proofs.YtdcojpbgijkmgaaDoor
