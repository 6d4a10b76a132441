/-
  A part of the proof.
-/
import Derived.Test.YthgknegocfhdbaaDoorC6
import Derived.Test.YthgknegocfhdbaaDoorC2
import Derived.Test.YthgknegocfhdbaaDoorC4
import Derived.Test.YthgknegocfhdbaaDoorC5
import Derived.Test.YthgknegocfhdbaaDoorC3
import Derived.Maps.AppendAt
import Derived.Deep.AppendLies
import Derived.Laws.BytesString
/-
 The document's name and closes: where a name and a text in quotes end.
-/
namespace Go.Proofs.YthgknegocfhdbaaDoor
open Go.RowKit
def cl (s : ByteArray) (k : Nat) : Option Nat := if h : k < s.size then (if (bt s k == 92) = true then cl s (k + 2) else if (bt s k == 34) = true then some (k + 1) else cl s (k + 1)) else none
termination_by s.size - k
decreasing_by
 ·omega
 ·omega
theorem cl_end {s : ByteArray} {k : Nat} (h : ¬ k < s.size) : cl s k = none := by rw [cl, dif_neg h]
theorem cl_e {s : ByteArray} {k : Nat} (h : k < s.size) (h2 : (bt s k == 92) = true) : cl s k = cl s (k + 2) := by rw [cl, dif_pos h, if_pos h2]
theorem cl_q {s : ByteArray} {k : Nat} (h : k < s.size) (h2 : (bt s k == 92) = false) (h3 : (bt s k == 34) = true) : cl s k = some (k + 1) := by rw [cl, dif_pos h, if_neg (by rw [h2]; simp), if_pos h3]
theorem cl_o {s : ByteArray} {k : Nat} (h : k < s.size) (h2 : (bt s k == 92) = false) (h3 : (bt s k == 34) = false) : cl s k = cl s (k + 1) := by rw [cl, dif_pos h, if_neg (by rw [h2]; simp), if_neg (by rw [h3]; simp)]
theorem qte_cl (s : ByteArray) (a : Nat) : ∀ (d k : Nat), s.size - k ≤ d → qte s a k = (cl s (k + 1)).getD a := by
 intro d
 induction d with
 | zero => intro k hd; rw [qte, dif_neg (by omega), cl_end (by omega)]; rfl
 | succ d ih =>
  intro k hd
  by_cases h : k + 1 < s.size
  ·rw [qte, dif_pos h]
   cases h2 : (bt s (k + 1) == 92) with
   | true => rw [if_pos rfl, cl_e h h2]; exact ih (k + 2) (by omega)
   | false =>
    rw [if_neg (by simp)]
    cases h3 : (bt s (k + 1) == 34) with
    | true => rw [if_pos rfl, cl_q h h2 h3]; rfl
    | false => rw [if_neg (by simp), cl_o h h2 h3]; exact ih (k + 1) (by omega)
  ·rw [qte, dif_neg h, cl_end h]; rfl
theorem rnm_n (s : ByteArray) (a : Nat) (w : World) (hs : s.size ≤ maxLen - 8) (ha : a ≤ s.size) : Calls Tryd.prog 30 #[.string s, .int .i64 ((a : Nat) : Int)] w fun e w' => e = .returned (.int .i64 ((nme s a : Nat) : Int)) ∧ Mo w w' := by
 unfold maxLen at hs
 refine w_enter 24 Tryd.func30 Tryd.ntmps30 rfl rfl ?_
 have M : Mo w w := Mo.refl _
 refine w_seq (w_reg ?_)
 refine wl_m (.const (.int .i64 (0))) (.int .i64 (0)) ?_
 refine w_nil (xn_then (w_seq (w_block ?_)))
 refine w_loop (fun m l w1 => ∃ k : Nat, m = s.size - k ∧ look l 0 = .string s ∧ look l 1 = .int .i64 ((k : Nat) : Int) ∧ k ≤ s.size ∧ nme s k = nme s a ∧ Mo w w1) _ ⟨a, rfl, rfl, rfl, ha, rfl, M⟩ ?_
 clear M
 rintro m l wl ⟨k, rfl, e0, e1, hk, hB, M⟩
 refine w_seq (w_seq ?_)
 cases hf0 : decide (k < s.size) with
 | true =>
  have hf0p := of_decide_eq_true hf0
  cases hf1 : ltr (bt s (k)) with
  | true =>
   refine w_reg ?_
   refine wl_mv (.tmp 1) (.int .i64 ((k : Nat) : Int)) (fun _ => rfl) e1 rfl ?_
   refine wl_mv (.tmp 0) (.string s) (fun _ => rfl) e0 rfl ?_
   refine wl_val (.int .i64 ((s.size : Nat) : Int)) (len_s _ _ s (by exact rfl) _ _ _ _ _ _) rfl ?_
   refine wl_b .lss 3 (.tmp 5) (.tmp 7) (.int .i64 ((k : Nat) : Int)) (.int .i64 ((s.size : Nat) : Int)) (.bool true) (ltN hf0 _ _ _) ?_
   refine wl_m (.tmp 8) (.bool true) ?_
   refine wl_mv (.tmp 0) (.string s) (fun _ => rfl) e0 rfl ?_
   refine wl_mv (.tmp 1) (.int .i64 ((k : Nat) : Int)) (fun _ => rfl) e1 rfl ?_
   refine wl_bin (fun x y => Instr.index 9 x y) (.tmp 10) (.tmp 11) (.string s) (.int .i64 ((k : Nat) : Int)) (.int .u8 (bt s (k))) (fun _ => rfl) rfl rfl (idx_b (k := k) (by omega) _) rfl ?_
   refine wl_call 29 [(.tmp 12)] _ [.int .u8 (bt s (k))] (.bool true) rfl rfl (fun _ _ => by kernel_rfl) (ltr_c hf1 letter_n _) rfl ?_
   intro w11 hq
   replace M := M.trans hq
   clear hq
   refine wl_m (.tmp 13) (.bool true) ?_
   refine wl_skip rfl (wl_skip rfl (wl_skip rfl (wl_skip rfl ?_)))
   refine wl_pick (.tmp 14) (.const (.bool true)) (.tmp 18) true (.bool true) (fun _ => rfl) rfl rfl rfl ?_
   refine wl_pick (.tmp 9) (.tmp 19) (.const (.bool false)) true (.bool true) (fun _ => rfl) rfl rfl rfl ?_
   refine w_nil (xn_then (w_condT rfl (w_skip (xn_then (w_block (w_reg ?_))))))
   refine wl_mv (.tmp 1) (.int .i64 ((k : Nat) : Int)) (fun _ => rfl) e1 rfl ?_
   refine wl_b .add 3 (.tmp 21) (.const (.int .i64 (1))) (.int .i64 ((k : Nat) : Int)) (.int .i64 (1)) (.int .i64 ((k + 1 : Nat) : Int)) (addk (a := k) (b := 1) rfl (by omega) _ _ _) ?_
   refine wl_m (.tmp 22) (.int .i64 ((k + 1 : Nat) : Int)) ?_
   refine w_nil (xn_blk ?_)
   exact xn_loop (s.size - (k + 1)) (by omega) ⟨k + 1, rfl, e0, rfl, by omega, (nme_on (by rw [hf1]; rfl)).symm.trans hB, M⟩
  | false =>
   cases hf2 : dgt (bt s (k)) with
   | true =>
    refine w_reg ?_
    refine wl_mv (.tmp 1) (.int .i64 ((k : Nat) : Int)) (fun _ => rfl) e1 rfl ?_
    refine wl_mv (.tmp 0) (.string s) (fun _ => rfl) e0 rfl ?_
    refine wl_val (.int .i64 ((s.size : Nat) : Int)) (len_s _ _ s (by exact rfl) _ _ _ _ _ _) rfl ?_
    refine wl_b .lss 3 (.tmp 5) (.tmp 7) (.int .i64 ((k : Nat) : Int)) (.int .i64 ((s.size : Nat) : Int)) (.bool true) (ltN hf0 _ _ _) ?_
    refine wl_m (.tmp 8) (.bool true) ?_
    refine wl_mv (.tmp 0) (.string s) (fun _ => rfl) e0 rfl ?_
    refine wl_mv (.tmp 1) (.int .i64 ((k : Nat) : Int)) (fun _ => rfl) e1 rfl ?_
    refine wl_bin (fun x y => Instr.index 9 x y) (.tmp 10) (.tmp 11) (.string s) (.int .i64 ((k : Nat) : Int)) (.int .u8 (bt s (k))) (fun _ => rfl) rfl rfl (idx_b (k := k) (by omega) _) rfl ?_
    refine wl_call 29 [(.tmp 12)] _ [.int .u8 (bt s (k))] (.bool false) rfl rfl (fun _ _ => by kernel_rfl) (ltr_c hf1 letter_n _) rfl ?_
    intro w11 hq
    replace M := M.trans hq
    clear hq
    refine wl_m (.tmp 13) (.bool false) ?_
    refine wl_mv (.tmp 0) (.string s) (fun _ => rfl) e0 rfl ?_
    refine wl_mv (.tmp 1) (.int .i64 ((k : Nat) : Int)) (fun _ => rfl) e1 rfl ?_
    refine wl_bin (fun x y => Instr.index 9 x y) (.tmp 15) (.tmp 16) (.string s) (.int .i64 ((k : Nat) : Int)) (.int .u8 (bt s (k))) (fun _ => rfl) rfl rfl (idx_b (k := k) (by omega) _) rfl ?_
    refine wl_call 31 [(.tmp 17)] _ [.int .u8 (bt s (k))] (.bool true) rfl rfl (fun _ _ => by kernel_rfl) (dgt_c hf2 rdigit_n _) rfl ?_
    intro w12 hq
    replace M := M.trans hq
    clear hq
    refine wl_pick (.tmp 14) (.const (.bool true)) (.tmp 18) false (.bool true) (fun _ => rfl) rfl rfl rfl ?_
    refine wl_pick (.tmp 9) (.tmp 19) (.const (.bool false)) true (.bool true) (fun _ => rfl) rfl rfl rfl ?_
    refine w_nil (xn_then (w_condT rfl (w_skip (xn_then (w_block (w_reg ?_))))))
    refine wl_mv (.tmp 1) (.int .i64 ((k : Nat) : Int)) (fun _ => rfl) e1 rfl ?_
    refine wl_b .add 3 (.tmp 21) (.const (.int .i64 (1))) (.int .i64 ((k : Nat) : Int)) (.int .i64 (1)) (.int .i64 ((k + 1 : Nat) : Int)) (addk (a := k) (b := 1) rfl (by omega) _ _ _) ?_
    refine wl_m (.tmp 22) (.int .i64 ((k + 1 : Nat) : Int)) ?_
    refine w_nil (xn_blk ?_)
    exact xn_loop (s.size - (k + 1)) (by omega) ⟨k + 1, rfl, e0, rfl, by omega, (nme_on (by rw [hf1, hf2]; rfl)).symm.trans hB, M⟩
   | false =>
    refine w_reg ?_
    refine wl_mv (.tmp 1) (.int .i64 ((k : Nat) : Int)) (fun _ => rfl) e1 rfl ?_
    refine wl_mv (.tmp 0) (.string s) (fun _ => rfl) e0 rfl ?_
    refine wl_val (.int .i64 ((s.size : Nat) : Int)) (len_s _ _ s (by exact rfl) _ _ _ _ _ _) rfl ?_
    refine wl_b .lss 3 (.tmp 5) (.tmp 7) (.int .i64 ((k : Nat) : Int)) (.int .i64 ((s.size : Nat) : Int)) (.bool true) (ltN hf0 _ _ _) ?_
    refine wl_m (.tmp 8) (.bool true) ?_
    refine wl_mv (.tmp 0) (.string s) (fun _ => rfl) e0 rfl ?_
    refine wl_mv (.tmp 1) (.int .i64 ((k : Nat) : Int)) (fun _ => rfl) e1 rfl ?_
    refine wl_bin (fun x y => Instr.index 9 x y) (.tmp 10) (.tmp 11) (.string s) (.int .i64 ((k : Nat) : Int)) (.int .u8 (bt s (k))) (fun _ => rfl) rfl rfl (idx_b (k := k) (by omega) _) rfl ?_
    refine wl_call 29 [(.tmp 12)] _ [.int .u8 (bt s (k))] (.bool false) rfl rfl (fun _ _ => by kernel_rfl) (ltr_c hf1 letter_n _) rfl ?_
    intro w11 hq
    replace M := M.trans hq
    clear hq
    refine wl_m (.tmp 13) (.bool false) ?_
    refine wl_mv (.tmp 0) (.string s) (fun _ => rfl) e0 rfl ?_
    refine wl_mv (.tmp 1) (.int .i64 ((k : Nat) : Int)) (fun _ => rfl) e1 rfl ?_
    refine wl_bin (fun x y => Instr.index 9 x y) (.tmp 15) (.tmp 16) (.string s) (.int .i64 ((k : Nat) : Int)) (.int .u8 (bt s (k))) (fun _ => rfl) rfl rfl (idx_b (k := k) (by omega) _) rfl ?_
    refine wl_call 31 [(.tmp 17)] _ [.int .u8 (bt s (k))] (.bool false) rfl rfl (fun _ _ => by kernel_rfl) (dgt_c hf2 rdigit_n _) rfl ?_
    intro w12 hq
    replace M := M.trans hq
    clear hq
    refine wl_pick (.tmp 14) (.const (.bool true)) (.tmp 18) false (.bool false) (fun _ => rfl) rfl rfl rfl ?_
    refine wl_pick (.tmp 9) (.tmp 19) (.const (.bool false)) true (.bool false) (fun _ => rfl) rfl rfl rfl ?_
    refine w_nil (xn_then (w_condF rfl (w_exit (xx_then (xx_then (xx_blk (xn_then (w_seq (w_reg ?_)))))))))
    refine wl_mv (.tmp 1) (.int .i64 ((k : Nat) : Int)) (fun _ => rfl) e1 rfl ?_
    refine wl_m (.tmp 23) (.int .i64 ((k : Nat) : Int)) ?_
    refine w_nil (xn_then (w_ret ?_))
    exact w_ret1 _ (.int .i64 ((k : Nat) : Int)) rfl rfl ⟨by rw [← hB, nme_end (by rw [hf1, hf2]; rfl)], M⟩
 | false =>
  have hf0p := of_decide_eq_false hf0
  refine w_reg ?_
  refine wl_mv (.tmp 1) (.int .i64 ((k : Nat) : Int)) (fun _ => rfl) e1 rfl ?_
  refine wl_mv (.tmp 0) (.string s) (fun _ => rfl) e0 rfl ?_
  refine wl_val (.int .i64 ((s.size : Nat) : Int)) (len_s _ _ s (by exact rfl) _ _ _ _ _ _) rfl ?_
  refine wl_b .lss 3 (.tmp 5) (.tmp 7) (.int .i64 ((k : Nat) : Int)) (.int .i64 ((s.size : Nat) : Int)) (.bool false) (ltN hf0 _ _ _) ?_
  refine wl_m (.tmp 8) (.bool false) ?_
  refine wl_skip rfl (wl_skip rfl (wl_skip rfl (wl_skip rfl (wl_skip rfl (wl_skip rfl (wl_skip rfl (wl_skip rfl (wl_skip rfl (wl_skip rfl ?_)))))))))
  refine wl_pick (.tmp 9) (.tmp 19) (.const (.bool false)) false (.bool false) (fun _ => rfl) rfl rfl rfl ?_
  refine w_nil (xn_then (w_condF rfl (w_exit (xx_then (xx_then (xx_blk (xn_then (w_seq (w_reg ?_)))))))))
  refine wl_mv (.tmp 1) (.int .i64 ((k : Nat) : Int)) (fun _ => rfl) e1 rfl ?_
  refine wl_m (.tmp 23) (.int .i64 ((k : Nat) : Int)) ?_
  refine w_nil (xn_then (w_ret ?_))
  exact w_ret1 _ (.int .i64 ((k : Nat) : Int)) rfl rfl ⟨by rw [← hB, nme_end (by rw [bt_out (by omega)]; rfl)], M⟩
theorem closes_n (s : ByteArray) (a : Nat) (w : World) (hs : s.size ≤ maxLen - 8) (ha : a < s.size) : Calls Tryd.prog 34 #[.string s, .int .i64 ((a : Nat) : Int)] w fun e w' => e = .returned (.tuple #[.int .i64 (((cl s (a + 1)).getD 0 : Nat) : Int), .bool (cl s (a + 1)).isSome]) ∧ Mo w w' := by
 unfold maxLen at hs
 refine w_enter 27 Tryd.func34 Tryd.ntmps34 rfl rfl ?_
 have M : Mo w w := Mo.refl _
 refine w_seq (w_reg ?_)
 refine wl_m (.const (.int .i64 (0))) (.int .i64 (0)) ?_
 refine wl_m (.const (.bool false)) (.bool false) ?_
 refine w_nil (xn_then (w_seq (w_seq (w_reg ?_))))
 refine wl_m (.tmp 1) (.int .i64 ((a : Nat) : Int)) ?_
 refine wl_b .add 3 (.tmp 7) (.const (.int .i64 (1))) (.int .i64 ((a : Nat) : Int)) (.int .i64 (1)) (.int .i64 ((a + 1 : Nat) : Int)) (addk (a := a) (b := 1) rfl (by omega) _ _ _) ?_
 refine wl_m (.tmp 8) (.int .i64 ((a + 1 : Nat) : Int)) ?_
 refine w_nil (xn_then (w_block ?_))
 refine w_loop (fun m l w1 => ∃ k : Nat, m = s.size + 2 - k ∧ look l 0 = .string s ∧ look l 6 = .int .i64 ((k : Nat) : Int) ∧ k ≤ s.size + 1 ∧ cl s k = cl s (a + 1) ∧ Mo w w1) _ ⟨a + 1, rfl, rfl, rfl, by omega, rfl, M⟩ ?_
 clear M
 rintro m l wl ⟨k, rfl, e0, e6, hk, hB, M⟩
 refine w_seq (w_seq ?_)
 cases hf0 : decide (k < s.size) with
 | true =>
  have hf0p := of_decide_eq_true hf0
  refine w_reg ?_
  refine wl_mv (.tmp 6) (.int .i64 ((k : Nat) : Int)) (fun _ => rfl) e6 rfl ?_
  refine wl_mv (.tmp 0) (.string s) (fun _ => rfl) e0 rfl ?_
  refine wl_val (.int .i64 ((s.size : Nat) : Int)) (len_s _ _ s (by exact rfl) _ _ _ _ _ _) rfl ?_
  refine wl_b .lss 3 (.tmp 9) (.tmp 11) (.int .i64 ((k : Nat) : Int)) (.int .i64 ((s.size : Nat) : Int)) (.bool true) (ltN hf0 _ _ _) ?_
  refine w_nil (xn_then (w_condT rfl (w_skip (xn_then (w_seq (w_block (w_seq ?_)))))))
  cases hf1 : (bt s (k) == 92) with
  | true =>
   refine w_reg ?_
   refine wl_mv (.tmp 0) (.string s) (fun _ => rfl) e0 rfl ?_
   refine wl_mv (.tmp 6) (.int .i64 ((k : Nat) : Int)) (fun _ => rfl) e6 rfl ?_
   refine wl_bin (fun x y => Instr.index 9 x y) (.tmp 15) (.tmp 16) (.string s) (.int .i64 ((k : Nat) : Int)) (.int .u8 (bt s (k))) (fun _ => rfl) rfl rfl (idx_b (k := k) (by omega) _) rfl ?_
   refine wl_b .eql 5 (.tmp 17) (.const (.int .u8 (92))) (.int .u8 (bt s (k))) (.int .u8 (92)) (.bool true) (eq5r hf1 _ _ _) ?_
   refine w_nil (xn_then (w_condT rfl (w_reg ?_)))
   refine wl_mv (.tmp 6) (.int .i64 ((k : Nat) : Int)) (fun _ => rfl) e6 rfl ?_
   refine wl_b .add 3 (.tmp 19) (.const (.int .i64 (1))) (.int .i64 ((k : Nat) : Int)) (.int .i64 (1)) (.int .i64 ((k + 1 : Nat) : Int)) (addk (a := k) (b := 1) rfl (by omega) _ _ _) ?_
   refine wl_m (.tmp 20) (.int .i64 ((k + 1 : Nat) : Int)) ?_
   refine w_nil (xn_blk (xn_then (w_reg ?_)))
   refine wl_m (.tmp 6) (.int .i64 ((k + 1 : Nat) : Int)) ?_
   refine wl_b .add 3 (.tmp 13) (.const (.int .i64 (1))) (.int .i64 ((k + 1 : Nat) : Int)) (.int .i64 (1)) (.int .i64 ((k + 1 + 1 : Nat) : Int)) (addk (a := k + 1) (b := 1) rfl (by omega) _ _ _) ?_
   refine wl_m (.tmp 14) (.int .i64 ((k + 1 + 1 : Nat) : Int)) ?_
   refine w_nil ?_
   exact xn_loop (s.size + 2 - (k + 2)) (by omega) ⟨k + 2, rfl, e0, rfl, by omega, (cl_e (by omega) hf1).symm.trans hB, M⟩
  | false =>
   refine w_reg ?_
   refine wl_mv (.tmp 0) (.string s) (fun _ => rfl) e0 rfl ?_
   refine wl_mv (.tmp 6) (.int .i64 ((k : Nat) : Int)) (fun _ => rfl) e6 rfl ?_
   refine wl_bin (fun x y => Instr.index 9 x y) (.tmp 15) (.tmp 16) (.string s) (.int .i64 ((k : Nat) : Int)) (.int .u8 (bt s (k))) (fun _ => rfl) rfl rfl (idx_b (k := k) (by omega) _) rfl ?_
   refine wl_b .eql 5 (.tmp 17) (.const (.int .u8 (92))) (.int .u8 (bt s (k))) (.int .u8 (92)) (.bool false) (eq5r hf1 _ _ _) ?_
   refine w_nil (xn_then (w_condF rfl (w_seq ?_)))
   cases hf2 : (bt s (k) == 34) with
   | true =>
    refine w_reg ?_
    refine wl_mv (.tmp 0) (.string s) (fun _ => rfl) e0 rfl ?_
    refine wl_mv (.tmp 6) (.int .i64 ((k : Nat) : Int)) (fun _ => rfl) e6 rfl ?_
    refine wl_bin (fun x y => Instr.index 9 x y) (.tmp 21) (.tmp 22) (.string s) (.int .i64 ((k : Nat) : Int)) (.int .u8 (bt s (k))) (fun _ => rfl) rfl rfl (idx_b (k := k) (by omega) _) rfl ?_
    refine wl_b .eql 5 (.tmp 23) (.const (.int .u8 (34))) (.int .u8 (bt s (k))) (.int .u8 (34)) (.bool true) (eq5r hf2 _ _ _) ?_
    refine w_nil (xn_then (w_condT rfl (w_seq (w_reg ?_))))
    refine wl_mv (.tmp 6) (.int .i64 ((k : Nat) : Int)) (fun _ => rfl) e6 rfl ?_
    refine wl_b .add 3 (.tmp 25) (.const (.int .i64 (1))) (.int .i64 ((k : Nat) : Int)) (.int .i64 (1)) (.int .i64 ((k + 1 : Nat) : Int)) (addk (a := k) (b := 1) rfl (by omega) _ _ _) ?_
    refine wl_m (.tmp 26) (.int .i64 ((k + 1 : Nat) : Int)) ?_
    refine wl_m (.const (.bool true)) (.bool true) ?_
    refine w_nil (xn_then (w_ret (xr_blk (xr_then (xr_then (xr_blk (xr_then ?_)))))))
    exact w_ret2 _ _ (.int .i64 ((k + 1 : Nat) : Int)) (.bool true) rfl rfl rfl ⟨by rw [← hB, cl_q (by omega) hf1 hf2]; rfl, M⟩
   | false =>
    refine w_reg ?_
    refine wl_mv (.tmp 0) (.string s) (fun _ => rfl) e0 rfl ?_
    refine wl_mv (.tmp 6) (.int .i64 ((k : Nat) : Int)) (fun _ => rfl) e6 rfl ?_
    refine wl_bin (fun x y => Instr.index 9 x y) (.tmp 21) (.tmp 22) (.string s) (.int .i64 ((k : Nat) : Int)) (.int .u8 (bt s (k))) (fun _ => rfl) rfl rfl (idx_b (k := k) (by omega) _) rfl ?_
    refine wl_b .eql 5 (.tmp 23) (.const (.int .u8 (34))) (.int .u8 (bt s (k))) (.int .u8 (34)) (.bool false) (eq5r hf2 _ _ _) ?_
    refine w_nil (xn_then (w_condF rfl (w_skip (xn_blk (xn_then (w_reg ?_))))))
    refine wl_mv (.tmp 6) (.int .i64 ((k : Nat) : Int)) (fun _ => rfl) e6 rfl ?_
    refine wl_b .add 3 (.tmp 13) (.const (.int .i64 (1))) (.int .i64 ((k : Nat) : Int)) (.int .i64 (1)) (.int .i64 ((k + 1 : Nat) : Int)) (addk (a := k) (b := 1) rfl (by omega) _ _ _) ?_
    refine wl_m (.tmp 14) (.int .i64 ((k + 1 : Nat) : Int)) ?_
    refine w_nil ?_
    exact xn_loop (s.size + 2 - (k + 1)) (by omega) ⟨k + 1, rfl, e0, rfl, by omega, (cl_o (by omega) hf1 hf2).symm.trans hB, M⟩
 | false =>
  have hf0p := of_decide_eq_false hf0
  refine w_reg ?_
  refine wl_mv (.tmp 6) (.int .i64 ((k : Nat) : Int)) (fun _ => rfl) e6 rfl ?_
  refine wl_mv (.tmp 0) (.string s) (fun _ => rfl) e0 rfl ?_
  refine wl_val (.int .i64 ((s.size : Nat) : Int)) (len_s _ _ s (by exact rfl) _ _ _ _ _ _) rfl ?_
  refine wl_b .lss 3 (.tmp 9) (.tmp 11) (.int .i64 ((k : Nat) : Int)) (.int .i64 ((s.size : Nat) : Int)) (.bool false) (ltN hf0 _ _ _) ?_
  refine w_nil (xn_then (w_condF rfl (w_exit (xx_then (xx_then (xx_blk (xn_then (w_seq (w_reg ?_)))))))))
  refine wl_m (.const (.int .i64 (0))) (.int .i64 (0)) ?_
  refine wl_m (.const (.bool false)) (.bool false) ?_
  refine w_nil (xn_then (w_ret ?_))
  exact w_ret2 _ _ (.int .i64 (0)) (.bool false) rfl rfl rfl ⟨by rw [← hB, cl_end (by omega)]; rfl, M⟩
end Go.Proofs.YthgknegocfhdbaaDoor
namespace Go.Proofs
open Go.Shelf
def Tryd.laysB_ren : Go.Shelf.Ren := ⟨fun | 156 => 45 | 167 => 40 | 165 => 55 | 166 => 44 | 169 => 41 | 240 => 54 | 241 => 68 | 276 => 67 | 277 => 75 | n => n, fun | 31 => 60 | 9 => 9 | 3 => 3 | 4 => 4 | 0 => 0 | 20 => 20 | 72 => 64 | 76 => 72 | 70 => 61 | 37 => 62 | 75 => 68 | 127 => 79 | 164 => 89 | 5 => 5 | 80 => 70 | n => n, fun | n => n⟩
theorem Tryd.lays167 : Go.Proofs.Lays.n167 Tryd.prog Tryd.laysB_ren := {
  mixed := by kernel_rfl
  f167 := Tryd.func40.trans (congrArg some (by kernel_rfl))
  f240 := Tryd.func54.trans (congrArg some (by kernel_rfl))
  f276 := Tryd.func67.trans (congrArg some (by kernel_rfl))
  t0 := Tryd.underlying0
  a0 := Tryd.isAgg0
  z0 := Tryd.sizeOf0
  v0 := Tryd.zeroValue0
  t4 := Tryd.underlying4
  a4 := Tryd.isAgg4
  z4 := Tryd.sizeOf4
  v4 := Tryd.zeroValue4
  t5 := Tryd.underlying5
  a5 := Tryd.isAgg5
  z5 := Tryd.sizeOf5
  v5 := Tryd.zeroValue5
  t9 := Tryd.underlying9
  a9 := Tryd.isAgg9
  z9 := Tryd.sizeOf9
  v9 := Tryd.zeroValue9
  t20 := Tryd.underlying20
  a20 := Tryd.isAgg20
  z20 := Tryd.sizeOf20
  v20 := Tryd.zeroValue20
  t37 := Tryd.underlying62
  a37 := Tryd.isAgg62
  z37 := Tryd.sizeOf62
  v37 := Tryd.zeroValue62
  t70 := Tryd.underlying61
  a70 := Tryd.isAgg61
  z70 := Tryd.sizeOf61
  v70 := Tryd.zeroValue61
  t72 := Tryd.underlying64
  a72 := Tryd.isAgg64
  z72 := Tryd.sizeOf64
  v72 := Tryd.zeroValue64
  t75 := Tryd.underlying68
  a75 := Tryd.isAgg68
  z75 := Tryd.sizeOf68
  v75 := Tryd.zeroValue68
  t164 := Tryd.underlying89
  a164 := Tryd.isAgg89
  z164 := Tryd.sizeOf89
  v164 := Tryd.zeroValue89 }
theorem Tryd.lays166 : Go.Proofs.Lays.n166 Tryd.prog Tryd.laysB_ren := {
  mixed := by kernel_rfl
  f166 := Tryd.func44.trans (congrArg some (by kernel_rfl))
  f240 := Tryd.func54.trans (congrArg some (by kernel_rfl))
  f276 := Tryd.func67.trans (congrArg some (by kernel_rfl))
  t0 := Tryd.underlying0
  a0 := Tryd.isAgg0
  z0 := Tryd.sizeOf0
  v0 := Tryd.zeroValue0
  t3 := Tryd.underlying3
  a3 := Tryd.isAgg3
  z3 := Tryd.sizeOf3
  v3 := Tryd.zeroValue3
  t4 := Tryd.underlying4
  a4 := Tryd.isAgg4
  z4 := Tryd.sizeOf4
  v4 := Tryd.zeroValue4
  t9 := Tryd.underlying9
  a9 := Tryd.isAgg9
  z9 := Tryd.sizeOf9
  v9 := Tryd.zeroValue9
  t20 := Tryd.underlying20
  a20 := Tryd.isAgg20
  z20 := Tryd.sizeOf20
  v20 := Tryd.zeroValue20
  t37 := Tryd.underlying62
  a37 := Tryd.isAgg62
  z37 := Tryd.sizeOf62
  v37 := Tryd.zeroValue62
  t70 := Tryd.underlying61
  a70 := Tryd.isAgg61
  z70 := Tryd.sizeOf61
  v70 := Tryd.zeroValue61
  t72 := Tryd.underlying64
  a72 := Tryd.isAgg64
  z72 := Tryd.sizeOf64
  v72 := Tryd.zeroValue64
  t75 := Tryd.underlying68
  a75 := Tryd.isAgg68
  z75 := Tryd.sizeOf68
  v75 := Tryd.zeroValue68
  t164 := Tryd.underlying89
  a164 := Tryd.isAgg89
  z164 := Tryd.sizeOf89
  v164 := Tryd.zeroValue89 }
theorem Tryd.Builder_Extra_B : Builder.Extra Tryd.prog Tryd.laysB_ren := {
  sizeBuilder := by kernel_rfl
  liesBuilder := by kernel_rfl
  t5 := Tryd.underlying5
  a5 := Tryd.isAgg5
  z5 := Tryd.sizeOf5
  v5 := Tryd.zeroValue5
  infoByte := by kernel_rfl
  cellsByte := by kernel_rfl
  sizeByte := by kernel_rfl
  neB5 := by decide }
open Go.RowKit in theorem Tryd.Builder_WriteByte (B b : Nat) (bs : List Value) (c : Int) (w : World) (h : Lib.IsBuilder 64 5 B b bs w) (hlen : bs.length + 1 ≤ 140737488355328) (hBw : B ≤ w.heap.size) :
    Calls Tryd.prog 40 #[.pointer (some ⟨b, 0, none⟩), .int .u8 c] w fun e w' => e = .returned .nilIface ∧ (Lib.BuilderAt 64 5 B b (.pointer (some ⟨b, 0, none⟩)) (bs ++ [.int .u8 c]) w' ∧ Below B w w') := Any.Builder_WriteByte Tryd.lays167 Tryd.Builder_Extra_B B b bs c w h hlen hBw
open Go.RowKit in theorem Tryd.Builder_WriteString (B b : Nat) (bs : List Value) (s : ByteArray) (w : World) (h : Lib.IsBuilder 64 5 B b bs w) (hlen : bs.length + s.size ≤ 140737488355328) (hBw : B ≤ w.heap.size) :
    Calls Tryd.prog 44 #[.pointer (some ⟨b, 0, none⟩), .string s] w fun e w' => e = .returned (.tuple #[.int .i64 s.size, .nilIface]) ∧ (Lib.BuilderAt 64 5 B b (.pointer (some ⟨b, 0, none⟩)) (bs ++ Lib.strCells s) w' ∧ Below B w w') := Any.Builder_WriteString Tryd.lays166 Tryd.Builder_Extra_B B b bs s w h hlen hBw
end Go.Proofs
/-
 lex.Unquote.
-/
namespace Go.Proofs.YthgknegocfhdbaaDoor.V
open Go.RowKit
section
variable {P : Program} {o : Oper} {n : Nat} {l : List (Nat × Value)} {w : World} {ops : Array Oper} {rest : List Oper} {Q : Exit → Act → World → Prop}
theorem wl_callx (g : FuncId) (xs : List Operand) (ats : Array TypeId) (args : List Value) {F : Ending → World → Prop} (ho : o.op = .call { callee := .value (.func g), args := xs.toArray, argTypes := ats }) (hx : xs.map (evl n l) = args)
  (h : ∀ args w, (callFunc g args).run P w = .ok (.enter g args) w)
  (hc : Calls P g args.toArray w F) (hg : wnt n l ops o = true) (hk : ∀ v w', F v w' → ∃ u, v = .returned u ∧ WL P ops Q rest n (ext l o.dst u) w') : WL P ops Q (o :: rest) n l w := by
 have e : (execOp (evl n l) o).run P w = .ok (.enter g args.toArray) w := by
  obtain ⟨dst, op, ty, pos, after, guard⟩ := o
  simp only at ho
  subst ho hx
  have e2 := execOp_call_go (fr n l) dst g xs.toArray ats ty pos after guard
  rw [fr_eval] at e2
  rw [e2, h]
  simp
 refine ⟨l_step hg ?_⟩
 unfold Oper.wp; rw [fr_eval, e, Oper.upon_enter]
 refine hc.mono ?_
 intro e w' hF
 obtain ⟨u, rfl, hW⟩ := hk e w' hF
 show wpList _ _ _ _ _ _
 rw [fr_put]
 exact hW.out
end
section
variable {o : Oper} {n : Nat} {l : List (Nat × Value)} {w : World} {ops : Array Oper} {rest : List Oper} {Q : Exit → Act → World → Prop}
theorem wl_new64 (ho : o.op = .alloc 64) (hg : wnt n l ops o = true) (hk : ∀ k w', w.heap.size = k → Mw w w' → (∀ B, B ≤ k → Lib.IsBuilder 64 5 B k [] w') → WL Tryd.prog ops Q rest n (ext l o.dst (pt k 0)) w') : WL Tryd.prog ops Q (o :: rest) n l w :=
 ⟨l_step hg (o_val (pt w.heap.size 0) (w' := w.alloc (.cells #[.pointer none, .slice none 0 0] 64)) (by unfold execOp; rw [ho]; kernel_rfl) (hk _ _ rfl ((Mw.refl _).alloc _ _) (fun B hB => Or.inl ⟨hB, .slice none 0 0, by show (w.heap.push _)[w.heap.size]? = _; rw [Array.getElem?_push, if_pos rfl], ⟨rfl, .inl ⟨rfl, rfl⟩⟩, by simp [Value.ownBlock]⟩)).out)⟩
end
theorem IB.mw {T e B b : Nat} {bs : List Value} {w w' : World} (h : Lib.IsBuilder T e B b bs w) (m : Mw w w') : Lib.IsBuilder T e B b bs w' := by
 have key : ∀ p, Lib.BuilderAt T e B b p bs w → Lib.BuilderAt T e B b p bs w' := fun p ⟨hB, v, hb, ho, hn⟩ =>
  ⟨hB, v, (m.block b (Array.getElem?_eq_some_iff.1 hb).1).trans hb, ho.kept (row := none) ⟨m.os, m.tape, m.output, m.size, fun k hk _ => m.block k hk⟩ (by cases e : v.ownBlock <;> simp), hn⟩
 rcases h with h | h
 ·exact Or.inl (key _ h)
 ·exact Or.inr (key _ h)
theorem bt_rg (s : ByteArray) (k : Nat) : 0 ≤ bt s k ∧ bt s k ≤ 255 := by
 unfold bt
 split
 ·have := UInt8.toNat_lt s[k]; omega
 ·omega
theorem hexB_ok (h l : Int) : 0 ≤ (hexB h l).1 ∧ (hexB h l).1 ≤ 255 ∧ 0 ≤ (hexB h l).2 ∧ (hexB h l).2 ≤ 4 := by
 unfold hexB
 split
 ·decide
 ·rename_i h0
  have h1 := hxd_cases h
  have h2 := hxd_cases l
  split
  ·decide
  ·show 0 ≤ 16 * hxd h + hxd l ∧ 16 * hxd h + hxd l ≤ 255 ∧ (0 : Int) ≤ 4 ∧ (4 : Int) ≤ 4
   rcases h1 with h1 | ⟨a, ha, h1⟩
   ·omega
   ·rcases h2 with h2 | ⟨b, hb, h2⟩ <;> omega
theorem fb_ok {s : ByteArray} (h0 : 0 < s.size) : 0 ≤ (fb s).1 ∧ (fb s).1 ≤ 255 ∧ 0 ≤ (fb s).2 ∧ (fb s).2 ≤ s.size := by
 have b0 := bt_rg s 0
 have b1 := bt_rg s 1
 unfold fb
 split
 ·split
  ·exact ⟨by decide, by decide, by decide, by omega⟩
  ·exact ⟨b0.1, b0.2, by show (0 : Int) ≤ 1; decide, by show (1 : Int) ≤ _; omega⟩
 ·split
  ·exact ⟨by decide, by decide, by decide, by omega⟩
  ·split
   ·exact ⟨b1.1, b1.2, by show (0 : Int) ≤ 2; decide, by show (2 : Int) ≤ _; omega⟩
   ·split
    ·rename_i h4
     have := hexB_ok (bt s 2) (bt s 3)
     omega
    ·exact ⟨by decide, by decide, by decide, by omega⟩
def uq (r : ByteArray) : Option (List UInt8) :=
 if r.size = 0 then some [] else if _h : (fb r).2 ≤ 0 then none else (uq (r.extract (fb r).2.toNat r.size)).map (fun t => (fb r).1.toNat.toUInt8 :: t)
termination_by r.size
decreasing_by rw [ByteArray.size_extract]; omega
def unq (s : ByteArray) : ByteArray × Bool :=
 if s.size < 2 ∨ (bt s 0 == 34) = false ∨ (bt s (s.size - 1) == 34) = false then (⟨#[]⟩, false)
 else match uq (s.extract 1 (s.size - 1)) with
  | none => (⟨#[]⟩, false)
  | some l => (⟨l.toArray⟩, true)
theorem uq_0 {r : ByteArray} (h : r.size = 0) : uq r = some [] := by rw [uq, if_pos h]
theorem uq_x {r : ByteArray} (h : ¬ r.size = 0) (h2 : (fb r).2 = 0) : uq r = none := by rw [uq, if_neg h, dif_pos (by omega)]
theorem uq_s {r : ByteArray} {c : Int} {u : Nat} (h : ¬ r.size = 0) (hc : (fb r).1 = c) (hu : (fb r).2 = (u : Int)) (h2 : u ≠ 0) : uq r = (uq (r.extract u r.size)).map (fun t => c.toNat.toUInt8 :: t) := by
 rw [uq, if_neg h, dif_neg (by omega), hc, hu]; rfl
theorem bc_snoc {L : List UInt8} {c : Int} (h : 0 ≤ c ∧ c ≤ 255) : Lib.byteCells L ++ [.int .u8 c] = Lib.byteCells (L ++ [c.toNat.toUInt8]) := by
 unfold Lib.byteCells
 rw [List.map_append]
 have e : ((c.toNat.toUInt8).toNat : Int) = c := by
  rw [Nat.toUInt8, UInt8.toNat_ofNat']
  omega
 show _ = _ ++ [Value.int .u8 ((c.toNat.toUInt8).toNat : Int)]
 rw [e]
theorem nez9 {s : ByteArray} {r : Bool} (h : decide (s.size = 0) = r) (x y : Operand) (w : World) : (do eqGuard .neq 9 x y (.string s) (.string ⟨#[]⟩); binOp .neq 9 (.string s) (.string ⟨#[]⟩)).run Tryd.prog w = .ok (.bool (!r)) w := by
 refine nee_run (r := r) ?_ _ _ _
 rw [← h, Lib.toList_data, Bool.eq_iff_iff, decide_eq_true_iff, ← by8_len, List.isEmpty_iff]
 exact List.length_eq_zero_iff.symm
theorem subN1 {a : Nat} (h : 1 ≤ a) (h2 : a ≤ 9223372036854775807) (x y : Operand) (w : World) : (do eqGuard .sub 3 x y (.int .i64 (a : Int)) (.int .i64 1); binOp .sub 3 (.int .i64 (a : Int)) (.int .i64 1)).run Tryd.prog w = .ok (.int .i64 ((a - 1 : Nat) : Int)) w := by
 have e : (do eqGuard .sub 3 x y (.int .i64 (a : Int)) (.int .i64 1); binOp .sub 3 (.int .i64 (a : Int)) (.int .i64 1)).run Tryd.prog w = .ok (.int .i64 (IntKind.i64.wrap ((a : Int) - 1))) w := by kernel_rfl
 have h3 : IntKind.i64.wrap ((a : Int) - 1) = ((a - 1 : Nat) : Int) := by rw [IntKind.wrap_i64]; omega
 rw [e, h3]
theorem fb_c {r : ByteArray} {c : Int} {u : Nat} (h0 : 0 < r.size) (hc : (fb r).1 = c) (hu : (fb r).2 = (u : Int)) (w : World) : Calls Tryd.prog 39 #[.string r] w fun e w' => e = .returned (.tuple #[.int .u8 c, .int .i64 (u : Int)]) ∧ Mw w w' := by
 have h := wk (firstByte_n r w h0)
 rw [hc, hu] at h; exact h
theorem unquote_n (s : ByteArray) (w : World) (hs : s.size ≤ 140737488355328) : Calls Tryd.prog 20 #[.string s] w fun e w' => e = .returned (.tuple #[.string (unq s).1, .bool (unq s).2]) ∧ Mw w w' := by
 refine w_enter 44 Tryd.func20 Tryd.ntmps20 rfl rfl ?_
 have M : Mw w w := Mw.refl _
 refine w_seq (w_reg ?_)
 refine wl_m (.const (.string ⟨#[]⟩)) (.string ⟨#[]⟩) ?_
 refine wl_m (.const (.bool false)) (.bool false) ?_
 refine w_nil (xn_then (w_seq (w_seq ?_)))
 cases hf0 : decide (s.size < 2) with
 | true =>
  have hf0p := of_decide_eq_true hf0
  refine w_reg ?_
  refine wl_m (.tmp 0) (.string s) ?_
  refine wl_val (.int .i64 ((s.size : Nat) : Int)) (len_s _ _ s (by exact rfl) _ _ _ _ _ _) rfl ?_
  refine wl_b .lss 3 (.tmp 9) (.const (.int .i64 (2))) (.int .i64 ((s.size : Nat) : Int)) (.int .i64 (2)) (.bool true) (ltN hf0 _ _ _) ?_
  refine wl_m (.tmp 10) (.bool true) ?_
  refine wl_skip rfl (wl_skip rfl (wl_skip rfl ?_))
  refine wl_pick (.tmp 11) (.const (.bool true)) (.tmp 14) true (.bool true) (fun _ => rfl) rfl rfl rfl ?_
  refine wl_m (.tmp 15) (.bool true) ?_
  refine wl_skip rfl (wl_skip rfl (wl_skip rfl (wl_skip rfl (wl_skip rfl (wl_skip rfl ?_)))))
  refine wl_pick (.tmp 16) (.const (.bool true)) (.tmp 22) true (.bool true) (fun _ => rfl) rfl rfl rfl ?_
  refine w_nil (xn_then (w_condT rfl (w_seq (w_reg ?_))))
  refine wl_m (.const (.string ⟨#[]⟩)) (.string ⟨#[]⟩) ?_
  refine wl_m (.const (.bool false)) (.bool false) ?_
  refine w_nil (xn_then (w_ret (xr_then ?_)))
  exact w_ret2 _ _ (.string ⟨#[]⟩) (.bool false) rfl rfl rfl ⟨by unfold unq; rw [if_pos (Or.inl hf0p)], M⟩
 | false =>
  have hf0p := of_decide_eq_false hf0
  cases hf1 : (bt s (0) == 34) with
  | true =>
   cases hf2 : (bt s (s.size - 1) == 34) with
   | true =>
    refine w_reg ?_
    refine wl_m (.tmp 0) (.string s) ?_
    refine wl_val (.int .i64 ((s.size : Nat) : Int)) (len_s _ _ s (by exact rfl) _ _ _ _ _ _) rfl ?_
    refine wl_b .lss 3 (.tmp 9) (.const (.int .i64 (2))) (.int .i64 ((s.size : Nat) : Int)) (.int .i64 (2)) (.bool false) (ltN hf0 _ _ _) ?_
    refine wl_m (.tmp 10) (.bool false) ?_
    refine wl_m (.tmp 0) (.string s) ?_
    refine wl_bin (fun x y => Instr.index 9 x y) (.tmp 12) (.const (.int .i64 (0))) (.string s) (.int .i64 (0)) (.int .u8 (bt s (0))) (fun _ => rfl) rfl rfl (idx_b (k := 0) (by omega) _) rfl ?_
    refine wl_b .neq 5 (.tmp 13) (.const (.int .u8 (34))) (.int .u8 (bt s (0))) (.int .u8 (34)) (.bool false) (ne5r hf1 _ _ _) ?_
    refine wl_pick (.tmp 11) (.const (.bool true)) (.tmp 14) false (.bool false) (fun _ => rfl) rfl rfl rfl ?_
    refine wl_m (.tmp 15) (.bool false) ?_
    refine wl_m (.tmp 0) (.string s) ?_
    refine wl_m (.tmp 0) (.string s) ?_
    refine wl_val (.int .i64 ((s.size : Nat) : Int)) (len_s _ _ s (by exact rfl) _ _ _ _ _ _) rfl ?_
    refine wl_b .sub 3 (.tmp 19) (.const (.int .i64 (1))) (.int .i64 ((s.size : Nat) : Int)) (.int .i64 (1)) (.int .i64 ((s.size - 1 : Nat) : Int)) (subN1 (by omega) (by omega) _ _ _) ?_
    refine wl_bin (fun x y => Instr.index 9 x y) (.tmp 17) (.tmp 20) (.string s) (.int .i64 ((s.size - 1 : Nat) : Int)) (.int .u8 (bt s (s.size - 1))) (fun _ => rfl) rfl rfl (idx_b (k := s.size - 1) (by omega) _) rfl ?_
    refine wl_b .neq 5 (.tmp 21) (.const (.int .u8 (34))) (.int .u8 (bt s (s.size - 1))) (.int .u8 (34)) (.bool false) (ne5r hf2 _ _ _) ?_
    refine wl_pick (.tmp 16) (.const (.bool true)) (.tmp 22) false (.bool false) (fun _ => rfl) rfl rfl rfl ?_
    refine w_nil (xn_then (w_condF rfl (w_skip (xn_then (w_seq (w_reg ?_))))))
    refine wl_new64 rfl rfl ?_
    intro kb wb hkb hq hIB
    replace hIB := hIB w.heap.size (by have := M.size; omega)
    replace M := M.trans hq
    clear hq
    refine w_nil (xn_then (w_seq (w_seq (w_reg ?_))))
    refine wl_m (.tmp 0) (.string s) ?_
    refine wl_m (.tmp 0) (.string s) ?_
    refine wl_val (.int .i64 ((s.size : Nat) : Int)) (len_s _ _ s (by exact rfl) _ _ _ _ _ _) rfl ?_
    refine wl_b .sub 3 (.tmp 26) (.const (.int .i64 (1))) (.int .i64 ((s.size : Nat) : Int)) (.int .i64 (1)) (.int .i64 ((s.size - 1 : Nat) : Int)) (subN1 (by omega) (by omega) _ _ _) ?_
    refine wl_val (.string (s.extract (1) (s.size - 1))) (mid_run _ _ _ _ s (1) (s.size - 1) (by exact rfl) (by exact rfl) (by exact rfl) (by omega) (by omega) _ _ _ _ _ _) rfl ?_
    refine wl_m (.tmp 28) (.string (s.extract (1) (s.size - 1))) ?_
    refine w_nil (xn_then (w_block ?_))
    have hun : unq s = (match uq (s.extract 1 (s.size - 1)) with | none => (⟨#[]⟩, false) | some l => (⟨l.toArray⟩, true)) := by unfold unq; rw [if_neg (fun e => by rcases e with e | e | e; (exact hf0p e); (rw [hf1] at e; cases e); (rw [hf2] at e; cases e))]
    refine w_loop (fun m l w1 => ∃ (r : ByteArray) (L : List UInt8), m = r.size ∧ look l 4 = pt kb 0 ∧ look l 5 = .string r ∧ Lib.IsBuilder 64 5 w.heap.size kb (Lib.byteCells L) w1 ∧ uq (s.extract 1 (s.size - 1)) = (uq r).map (L ++ ·) ∧ L.length + r.size ≤ s.size ∧ Mw w w1) _ ⟨s.extract 1 (s.size - 1), [], rfl, rfl, rfl, hIB, by cases uq (s.extract 1 (s.size - 1)) <;> rfl, by rw [ByteArray.size_extract]; simp only [List.length_nil]; omega, M⟩ ?_
    clear M hIB
    rintro m l wl ⟨r, L, rfl, e4, e5, hIB, hU, hL, M⟩
    by_cases hr : r.size = 0
    ·have hrd := decide_eq_true hr
     rw [uq_0 hr] at hU
     rw [hU] at hun
     refine w_seq (w_seq (w_reg ?_))
     refine wl_mv (.tmp 5) (.string r) (fun _ => rfl) e5 rfl ?_
     refine wl_b .neq 9 (.tmp 29) (.const (.string ⟨#[]⟩)) (.string r) (.string ⟨#[]⟩) (.bool false) (nez9 hrd _ _ _) ?_
     refine w_nil (xn_then (w_condF rfl (w_exit (xx_then (xx_then (xx_blk (xn_then (w_seq (w_reg ?_)))))))))
     refine wl_callx 41 [(.tmp 4)] _ [pt kb 0] rfl (li1 e4) (fun _ _ => by kernel_rfl) (Tryd.Builder_String_any w.heap.size kb L _ hIB M.size) rfl ?_
     rintro _ w11 ⟨rfl, hq⟩
     refine ⟨_, rfl, ?_⟩
     replace M := Below.trans M hq
     refine wl_m (.tmp 43) (.string ⟨L.toArray⟩) ?_
     refine wl_m (.const (.bool true)) (.bool true) ?_
     refine w_nil (xn_then (w_ret ?_))
     exact w_ret2 _ _ (.string ⟨L.toArray⟩) (.bool true) rfl rfl rfl ⟨by rw [hun]; simp, M⟩
    ·have hrd := decide_eq_false hr
     have hr0 : 0 < r.size := by omega
     have hfb := fb_ok hr0
     obtain ⟨c, hc⟩ : ∃ c, (fb r).1 = c := ⟨_, rfl⟩
     obtain ⟨u, hu⟩ : ∃ u : Nat, (fb r).2 = (u : Int) := ⟨(fb r).2.toNat, by omega⟩
     rw [hc, hu] at hfb
     have hcr : 0 ≤ c ∧ c ≤ 255 := ⟨hfb.1, hfb.2.1⟩
     refine w_seq (w_seq (w_reg ?_))
     refine wl_mv (.tmp 5) (.string r) (fun _ => rfl) e5 rfl ?_
     refine wl_b .neq 9 (.tmp 29) (.const (.string ⟨#[]⟩)) (.string r) (.string ⟨#[]⟩) (.bool true) (nez9 hrd _ _ _) ?_
     refine w_nil (xn_then (w_condT rfl (w_skip (xn_then (w_block (w_seq (w_reg ?_)))))))
     refine wl_mv (.tmp 5) (.string r) (fun _ => rfl) e5 rfl ?_
     refine wl_call 39 [(.tmp 32)] _ [.string r] (.tuple #[.int .u8 (c), .int .i64 ((u : Nat) : Int)]) rfl rfl (fun _ _ => by kernel_rfl) (fb_c hr0 hc hu _) rfl ?_
     intro w11 hq
     replace hIB := IB.mw hIB hq
     replace M := M.trans hq
     clear hq
     refine wl_m (.tmp 33) (.tuple #[.int .u8 (c), .int .i64 ((u : Nat) : Int)]) ?_
     refine wl_un (fun v => Instr.extract v 0) (.tmp 31) (.tuple #[.int .u8 (c), .int .i64 ((u : Nat) : Int)]) (.int .u8 (c)) (fun _ => rfl) rfl (by kernel_rfl) rfl ?_
     refine wl_un (fun v => Instr.extract v 1) (.tmp 31) (.tuple #[.int .u8 (c), .int .i64 ((u : Nat) : Int)]) (.int .i64 ((u : Nat) : Int)) (fun _ => rfl) rfl (by kernel_rfl) rfl ?_
     refine wl_m (.tmp 34) (.int .u8 (c)) ?_
     refine wl_m (.tmp 35) (.int .i64 ((u : Nat) : Int)) ?_
     refine w_nil (xn_then (w_seq (w_seq ?_)))
     cases hf20 : decide (u = 0) with
     | true =>
      have hf20p := of_decide_eq_true hf20
      refine w_reg ?_
      refine wl_m (.tmp 7) (.int .i64 ((u : Nat) : Int)) ?_
      refine wl_b .eql 3 (.tmp 36) (.const (.int .i64 (0))) (.int .i64 ((u : Nat) : Int)) (.int .i64 (0)) (.bool true) (eqN hf20 _ _ _) ?_
      refine w_nil (xn_then (w_condT rfl (w_seq (w_reg ?_))))
      refine wl_m (.const (.string ⟨#[]⟩)) (.string ⟨#[]⟩) ?_
      refine wl_m (.const (.bool false)) (.bool false) ?_
      refine w_nil (xn_then (w_ret (xr_then (xr_blk (xr_then (xr_blk (xr_then ?_)))))))
      exact w_ret2 _ _ (.string ⟨#[]⟩) (.bool false) rfl rfl rfl ⟨by rw [hun, hU, uq_x hr (by omega)]; rfl, M⟩
     | false =>
      have hf20p := of_decide_eq_false hf20
      refine w_reg ?_
      refine wl_m (.tmp 7) (.int .i64 ((u : Nat) : Int)) ?_
      refine wl_b .eql 3 (.tmp 36) (.const (.int .i64 (0))) (.int .i64 ((u : Nat) : Int)) (.int .i64 (0)) (.bool false) (eqN hf20 _ _ _) ?_
      refine w_nil (xn_then (w_condF rfl (w_skip (xn_then (w_seq (w_reg ?_))))))
      refine wl_m (.tmp 6) (.int .u8 (c)) ?_
      refine wl_callx 40 [(.tmp 4), (.tmp 38)] _ [pt kb 0, .int .u8 (c)] rfl (li2 e4 rfl) (fun _ _ => by kernel_rfl) (Tryd.Builder_WriteByte w.heap.size kb (Lib.byteCells L) c _ hIB (by rw [Lib.byteCells_length]; omega) M.size) rfl ?_
      rintro _ w12 ⟨rfl, hBA, hq⟩
      refine ⟨_, rfl, ?_⟩
      rw [bc_snoc hcr] at hBA
      have hIB : Lib.IsBuilder 64 5 w.heap.size kb (Lib.byteCells (L ++ [c.toNat.toUInt8])) w12 := Or.inr hBA
      replace M := Below.trans M hq
      refine w_nil (xn_then (w_reg ?_))
      refine wl_mv (.tmp 5) (.string r) (fun _ => rfl) e5 rfl ?_
      refine wl_m (.tmp 7) (.int .i64 ((u : Nat) : Int)) ?_
      refine wl_val (.string (r.extract (u) r.size)) (lo2_run _ _ _ r (u) (by exact rfl) (by exact rfl) (by omega) _ _ _ _ _ _) rfl ?_
      refine wl_m (.tmp 42) (.string (r.extract (u) r.size)) ?_
      refine w_nil (xn_blk ?_)
      exact xn_loop (r.extract u r.size).size (by rw [ByteArray.size_extract]; omega) ⟨r.extract u r.size, L ++ [c.toNat.toUInt8], rfl, e4, rfl, hIB, by rw [hU, uq_s hr hc hu (by omega)]; cases uq (r.extract u r.size) <;> simp, by rw [ByteArray.size_extract, List.length_append]; simp only [List.length_singleton]; omega, M⟩
   | false =>
    refine w_reg ?_
    refine wl_m (.tmp 0) (.string s) ?_
    refine wl_val (.int .i64 ((s.size : Nat) : Int)) (len_s _ _ s (by exact rfl) _ _ _ _ _ _) rfl ?_
    refine wl_b .lss 3 (.tmp 9) (.const (.int .i64 (2))) (.int .i64 ((s.size : Nat) : Int)) (.int .i64 (2)) (.bool false) (ltN hf0 _ _ _) ?_
    refine wl_m (.tmp 10) (.bool false) ?_
    refine wl_m (.tmp 0) (.string s) ?_
    refine wl_bin (fun x y => Instr.index 9 x y) (.tmp 12) (.const (.int .i64 (0))) (.string s) (.int .i64 (0)) (.int .u8 (bt s (0))) (fun _ => rfl) rfl rfl (idx_b (k := 0) (by omega) _) rfl ?_
    refine wl_b .neq 5 (.tmp 13) (.const (.int .u8 (34))) (.int .u8 (bt s (0))) (.int .u8 (34)) (.bool false) (ne5r hf1 _ _ _) ?_
    refine wl_pick (.tmp 11) (.const (.bool true)) (.tmp 14) false (.bool false) (fun _ => rfl) rfl rfl rfl ?_
    refine wl_m (.tmp 15) (.bool false) ?_
    refine wl_m (.tmp 0) (.string s) ?_
    refine wl_m (.tmp 0) (.string s) ?_
    refine wl_val (.int .i64 ((s.size : Nat) : Int)) (len_s _ _ s (by exact rfl) _ _ _ _ _ _) rfl ?_
    refine wl_b .sub 3 (.tmp 19) (.const (.int .i64 (1))) (.int .i64 ((s.size : Nat) : Int)) (.int .i64 (1)) (.int .i64 ((s.size - 1 : Nat) : Int)) (subN1 (by omega) (by omega) _ _ _) ?_
    refine wl_bin (fun x y => Instr.index 9 x y) (.tmp 17) (.tmp 20) (.string s) (.int .i64 ((s.size - 1 : Nat) : Int)) (.int .u8 (bt s (s.size - 1))) (fun _ => rfl) rfl rfl (idx_b (k := s.size - 1) (by omega) _) rfl ?_
    refine wl_b .neq 5 (.tmp 21) (.const (.int .u8 (34))) (.int .u8 (bt s (s.size - 1))) (.int .u8 (34)) (.bool true) (ne5r hf2 _ _ _) ?_
    refine wl_pick (.tmp 16) (.const (.bool true)) (.tmp 22) false (.bool true) (fun _ => rfl) rfl rfl rfl ?_
    refine w_nil (xn_then (w_condT rfl (w_seq (w_reg ?_))))
    refine wl_m (.const (.string ⟨#[]⟩)) (.string ⟨#[]⟩) ?_
    refine wl_m (.const (.bool false)) (.bool false) ?_
    refine w_nil (xn_then (w_ret (xr_then ?_)))
    exact w_ret2 _ _ (.string ⟨#[]⟩) (.bool false) rfl rfl rfl ⟨by unfold unq; rw [if_pos (Or.inr (Or.inr hf2))], M⟩
  | false =>
   refine w_reg ?_
   refine wl_m (.tmp 0) (.string s) ?_
   refine wl_val (.int .i64 ((s.size : Nat) : Int)) (len_s _ _ s (by exact rfl) _ _ _ _ _ _) rfl ?_
   refine wl_b .lss 3 (.tmp 9) (.const (.int .i64 (2))) (.int .i64 ((s.size : Nat) : Int)) (.int .i64 (2)) (.bool false) (ltN hf0 _ _ _) ?_
   refine wl_m (.tmp 10) (.bool false) ?_
   refine wl_m (.tmp 0) (.string s) ?_
   refine wl_bin (fun x y => Instr.index 9 x y) (.tmp 12) (.const (.int .i64 (0))) (.string s) (.int .i64 (0)) (.int .u8 (bt s (0))) (fun _ => rfl) rfl rfl (idx_b (k := 0) (by omega) _) rfl ?_
   refine wl_b .neq 5 (.tmp 13) (.const (.int .u8 (34))) (.int .u8 (bt s (0))) (.int .u8 (34)) (.bool true) (ne5r hf1 _ _ _) ?_
   refine wl_pick (.tmp 11) (.const (.bool true)) (.tmp 14) false (.bool true) (fun _ => rfl) rfl rfl rfl ?_
   refine wl_m (.tmp 15) (.bool true) ?_
   refine wl_skip rfl (wl_skip rfl (wl_skip rfl (wl_skip rfl (wl_skip rfl (wl_skip rfl ?_)))))
   refine wl_pick (.tmp 16) (.const (.bool true)) (.tmp 22) true (.bool true) (fun _ => rfl) rfl rfl rfl ?_
   refine w_nil (xn_then (w_condT rfl (w_seq (w_reg ?_))))
   refine wl_m (.const (.string ⟨#[]⟩)) (.string ⟨#[]⟩) ?_
   refine wl_m (.const (.bool false)) (.bool false) ?_
   refine w_nil (xn_then (w_ret (xr_then ?_)))
   exact w_ret2 _ _ (.string ⟨#[]⟩) (.bool false) rfl rfl rfl ⟨by unfold unq; rw [if_pos (Or.inr (Or.inl hf1))], M⟩
end Go.Proofs.YthgknegocfhdbaaDoor.V
/-
 A decimal text's parts: what the program's cuts make of them; digits with no 0 ahead.
-/
namespace Go.Proofs.YthgknegocfhdbaaDoor
open Go.RowKit
theorem dig_ne {x : UInt8} (h : isD x = true) (c : UInt8) (hc : isD c = false) : x ≠ c := fun e => by rw [e, hc] at h; cases h
theorem d45 : isD 45 = false := rfl
theorem d46 : isD 46 = false := rfl
theorem isD_b {x : UInt8} (h : isD x = true) : 48 ≤ (x.toNat : Int) ∧ (x.toNat : Int) ≤ 57 := by
 unfold isD at h; simpa using h
/-! The program's cuts. -/
theorem ixb_hit : ∀ (A B : List UInt8), (∀ x ∈ A, isD x = true) → Lib.indexByte (A ++ 46 :: B) 46 = (A.length : Int)
 | [], B, _ => by simp [Lib.indexByte]
 | a :: A, B, h => by
  have ha := dig_ne (h a (by simp)) 46 d46
  have ih := ixb_hit A B (fun x hx => h x (by simp [hx]))
  simp only [List.cons_append, Lib.indexByte, ih]
  rw [if_neg (by simpa using ha), if_neg (by simp)]
  simp
theorem ixb_miss : ∀ (A : List UInt8), (∀ x ∈ A, isD x = true) → Lib.indexByte A 46 = -1
 | [], _ => rfl
 | a :: A, h => by
  have ha := dig_ne (h a (by simp)) 46 d46
  have ih := ixb_miss A (fun x hx => h x (by simp [hx]))
  simp only [Lib.indexByte, ih]
  rw [if_neg (by simpa using ha)]
  rfl
theorem cut_df {A B : List UInt8} (h : ∀ x ∈ A, isD x = true) : (Lib.cut (A ++ (if B = [] then [] else 46 :: B)) [46]).1 = A ∧ (Lib.cut (A ++ (if B = [] then [] else 46 :: B)) [46]).2.1 = B := by
 unfold Lib.cut
 rw [Lib.index_one]
 by_cases hB : B = []
 ·subst hB
  rw [if_pos rfl, List.append_nil, ixb_miss A h]
  exact ⟨rfl, rfl⟩
 ·rw [if_neg hB, ixb_hit A B h, if_pos (by omega)]
  simp
theorem pre_df {l A B : List UInt8} {b : Bool} (h : Df l b A B) : Lib.hasPrefix l [45] = b ∧ Lib.trimPrefix l [45] = A ++ (if B = [] then [] else 46 :: B) := by
 have hp : Lib.hasPrefix l [45] = b := by
  rw [h.eq]
  unfold Lib.hasPrefix
  cases b with
  | true => rfl
  | false =>
   cases hA : A with
   | nil => exact absurd hA h.ne
   | cons a r =>
    have := dig_ne (h.ad a (by rw [hA]; simp)) 45 d45
    simp [sg8, List.isPrefixOf]
    exact fun e => this e.symm
 refine ⟨hp, ?_⟩
 unfold Lib.trimPrefix
 rw [hp]
 cases b with
 | true => rw [if_pos rfl, h.eq]; rfl
 | false => rw [if_neg (by simp), h.eq]; rfl
/-! Digits with no 0 ahead. -/
abbrev nl (l : List UInt8) : List Int := l.map fun x => (x.toNat : Int)
abbrev dw0 (l : List UInt8) : List UInt8 := l.dropWhile (· == 48)
structure Cn (z : List UInt8) : Prop where
 ne : z ≠ []
 dg : ∀ x ∈ z, isD x = true
 hd : z.length = 1 ∨ z.head? ≠ some 48
theorem dw0_mem {l : List UInt8} {x : UInt8} (h : x ∈ dw0 l) : x ∈ l := (List.dropWhile_sublist _).subset h
theorem dw0_head {l : List UInt8} : (dw0 l).head? ≠ some 48 := by
 intro h
 cases hd : dw0 l with
 | nil => rw [hd] at h; cases h
 | cons a r =>
  rw [hd] at h
  cases h
  have := List.head_dropWhile_not (p := (· == (48 : UInt8))) (l := l) (by rw [show l.dropWhile (· == 48) = 48 :: r from hd]; simp)
  simp only [show l.dropWhile (· == 48) = 48 :: r from hd] at this
  simp at this
theorem cn_woz {L : List UInt8} (h : ∀ x ∈ L, isD x = true) : Cn (woz L) := by
 unfold woz
 by_cases hz : L.dropWhile (· == 48) = []
 ·rw [if_pos hz]
  exact ⟨by simp, by intro x hx; simp at hx; subst hx; rfl, Or.inl rfl⟩
 ·rw [if_neg hz]
  exact ⟨hz, fun x hx => h x (dw0_mem hx), Or.inr dw0_head⟩
theorem cn_isT {z : List UInt8} (h : Cn z) : isT ⟨z.toArray⟩ := by
 have hl : (⟨z.toArray⟩ : ByteArray).size = z.length := tx_size z
 have hp : 0 < z.length := List.length_pos_iff.2 h.ne
 refine ⟨by omega, fun hh => ?_, fun j hj _ => ?_⟩
 ·obtain ⟨h1, h2⟩ := hh
  rcases h.hd with h3 | h3
  ·omega
  ·apply h3
   rw [List.head?_eq_getElem?, List.getElem?_eq_getElem hp]
   congr 1
   apply UInt8.toNat_inj.1
   have e48 : (48 : UInt8).toNat = 48 := rfl
   have h2' : ((z[0]).toNat : Int) = 48 := h2
   omega
 ·have hj' : j < z.length := by omega
  exact isD_b (h.dg (z[j]) (List.getElem_mem hj'))
theorem pvk_z8 (z : List UInt8) : pvk ⟨z.toArray⟩ (⟨z.toArray⟩ : ByteArray).size = pv z := by
 unfold pvk
 rw [tx_size]
 simp
theorem pv_nn : ∀ (z : List UInt8) (v : Int), (∀ x ∈ z, isD x = true) → 0 ≤ v → v ≤ z.foldl (fun v c => v * 10 + ((c.toNat : Int) - 48)) v
 | [], v, _, _ => by simp
 | x :: z, v, h, hv => by
  have hx := isD_b (h x (by simp))
  have := pv_nn z (v * 10 + ((x.toNat : Int) - 48)) (fun y hy => h y (by simp [hy])) (by omega)
  simp only [List.foldl_cons]
  omega
theorem pv_0 {z : List UInt8} (h : ∀ x ∈ z, isD x = true) : 0 ≤ pv z := pv_nn z 0 h (by omega)
theorem pv_pos {z : List UInt8} (h : ∀ x ∈ z, isD x = true) (hne : z ≠ []) (hh : z.head? ≠ some 48) : 0 < pv z := by
 cases z with
 | nil => exact absurd rfl hne
 | cons x r =>
  have hx := isD_b (h x (by simp))
  have hx48 : (x.toNat : Int) ≠ 48 := fun e => hh (by
   have : x = 48 := by
    apply UInt8.toNat_inj.1
    have e48 : (48 : UInt8).toNat = 48 := rfl
    omega
   rw [this]; rfl)
  have := pv_nn r (0 * 10 + ((x.toNat : Int) - 48)) (fun y hy => h y (by simp [hy])) (by omega)
  unfold pv
  simp only [List.foldl_cons]
  omega
theorem dw0_nil : ∀ (L : List UInt8), dw0 L = [] → ∀ y ∈ L, y = 48
 | [], _, y, hy => by cases hy
 | x :: L, e, y, hy => by
  by_cases hx : x = 48
  ·subst hx
   have e2 : dw0 L = [] := by simpa [dw0, List.dropWhile_cons] using e
   rcases List.mem_cons.1 hy with rfl | hy
   ·rfl
   ·exact dw0_nil L e2 y hy
  ·have : (x == 48) = false := beq_eq_false_iff_ne.2 hx
   simp [dw0, this] at e
theorem dw0_ne {L : List UInt8} (h : ∃ x ∈ L, x ≠ 48) : dw0 L ≠ [] := fun e => by
 obtain ⟨x, hx, hn⟩ := h
 exact hn (dw0_nil L e x hx)
abbrev nof (A B : List UInt8) : Int := pv (woz (A ++ B))
theorem Df.dg {l A B : List UInt8} {b : Bool} (h : Df l b A B) : ∀ x ∈ A ++ B, isD x = true := fun x hx => by
 rcases List.mem_append.1 hx with hx | hx
 ·exact h.ad x hx
 ·exact h.bd x hx
theorem Df.n0 {l A B : List UInt8} {b : Bool} (h : Df l b A B) : 0 ≤ nof A B := pv_0 (cn_woz h.dg).dg
theorem Df.ck {l A B : List UInt8} {b : Bool} (h : Df l b A B) (hk : B.length ≤ 18) : ck b (nof A B) (B.length : Int) = 0 := by
 unfold YthgknegocfhdbaaDoor.ck sc
 rw [decide_eq_true (show (0 : Int) ≤ (B.length : Int) by omega), decide_eq_true (show (B.length : Int) ≤ 18 by omega)]
 cases hb : b with
 | false => rfl
 | true =>
  have hne := dw0_ne (h.some hb)
  have : 0 < nof A B := by
   have hc := cn_woz h.dg
   refine pv_pos hc.dg hc.ne ?_
   unfold woz
   rw [if_neg hne]
   exact dw0_head
  rw [decide_eq_false (show ¬ nof A B = 0 by omega)]
  rfl
theorem nl_str (D : List UInt8) : strOf (nl D) = ⟨D.toArray⟩ := by
 have h := strOf_list (nl D)
 have e : (strOf (nl D)).data.toList = D := by
  rw [h, List.map_map]
  conv => rhs; rw [← List.map_id D]
  apply List.map_congr_left
  intro x _
  simp
 calc strOf (nl D) = ⟨(strOf (nl D)).data⟩ := rfl
  _ = ⟨(strOf (nl D)).data.toList.toArray⟩ := by rw [Array.toArray_toList]
  _ = ⟨D.toArray⟩ := by rw [e]
end Go.Proofs.YthgknegocfhdbaaDoor

/-
 Parse of a decimal text: what the program says.
-/
namespace Go.Proofs.YthgknegocfhdbaaDoor
open Go.RowKit
def pe (A B : List UInt8) : Int := if 18 < B.length then 31 else if nof A B < MM then 0 else 7
theorem lp_n {z : List UInt8} (hc : Cn z) (hl : z.length ≤ maxLen) (w : World) : Calls Tryd.prog 61 #[tx z] w fun e w' => e = .returned (.tuple #[nv (if pv z < MM then pv z else 0), .int .i64 (if pv z < MM then 0 else 7)]) ∧ Mo w w' := by
 haveI := Classical.propDecidable (isT ⟨z.toArray⟩)
 refine (parse_n ⟨z.toArray⟩ w (by rw [tx_size]; exact hl)).mono fun e w' ⟨he, hm⟩ => ⟨?_, hm⟩
 rw [he, if_pos (cn_isT hc)]
 unfold resP
 rw [pvk_z8]
 by_cases h : pv z < MM
 ·rw [if_pos h, if_pos h, if_pos h]
 ·rw [if_neg h, if_neg h, if_neg h]; rfl
theorem Df.len {l A B : List UInt8} {b : Bool} (h : Df l b A B) : A.length + B.length ≤ l.length := by
 rw [h.eq]
 by_cases hB : B = []
 ·rw [if_pos hB, hB]; simp
 ·rw [if_neg hB]; simp; omega
theorem woz_len2 {L : List UInt8} (h : L ≠ []) : (woz L).length ≤ L.length := by
 have hp := List.length_pos_iff.2 h
 unfold woz
 split
 ·simp; omega
 ·exact (List.dropWhile_sublist (p := (· == (48 : UInt8))) (l := L)).length_le
def pva (b : Bool) (A B : List UInt8) : Value := if pe A B = 0 then .tuple #[dc b (nof A B) (B.length : Int), .int .i64 0] else er (pe A B)
theorem parse13_df {s : ByteArray} {b : Bool} {A B : List UInt8} (h : Df (by8 s) b A B) (hs : s.size ≤ maxLen) (w : World) : Calls Tryd.prog 48 #[.string s] w fun e w' => e = .returned (pva b A B) ∧ Mo w w' := by
 have hi : ∀ w, Calls Tryd.prog 58 #[.string s] w fun e w' => e = .returned (.bool true) ∧ Mo w w' := fun w => by
  have := isDec_n s w hs; rw [dec_df h] at this; exact this
 obtain ⟨hp1, hp2⟩ := pre_df h
 have hC : ∀ w, Calls Tryd.prog 59 #[.string s, .string ⟨#[45]⟩] w fun e w' => e = .returned (.tuple #[tx (A ++ (if B = [] then [] else 46 :: B)), .bool b]) ∧ Mo w w' := fun w => by
  refine (Tryd.strings_CutPrefix s ⟨#[45]⟩ w).mono fun e w' ⟨he, hm⟩ => ⟨?_, by rw [hm]; exact Mo.refl _⟩
  rw [he]
  show Ending.returned (.tuple #[tx (Lib.trimPrefix (by8 s) [45]), .bool (Lib.hasPrefix (by8 s) [45])]) = _
  rw [hp1, hp2]
 have hlen := h.len
 rw [by8_len] at hlen
 have hlt : (A ++ (if B = [] then [] else 46 :: B)).length ≤ s.size := by
  rw [← by8_len, h.eq]; simp only [List.length_append]; omega
 obtain ⟨hc1, hc2⟩ := cut_df (B := B) h.ad
 have hD : ∀ w, Calls Tryd.prog 60 #[tx (A ++ (if B = [] then [] else 46 :: B)), .string ⟨#[46]⟩] w fun e w' => e = .returned (.tuple #[tx A, tx B, .bool (Lib.cut (A ++ (if B = [] then [] else 46 :: B)) [46]).2.2]) ∧ Mo w w' := fun w => by
  refine (cut_n ⟨(A ++ (if B = [] then [] else 46 :: B)).toArray⟩ 46 w (by rw [tx_size]; omega)).mono fun e w' ⟨he, hm⟩ => ⟨?_, hm⟩
  rw [he]
  show Ending.returned (.tuple #[tx (Lib.cut (A ++ (if B = [] then [] else 46 :: B)) [46]).1, tx (Lib.cut (A ++ (if B = [] then [] else 46 :: B)) [46]).2.1, .bool (Lib.cut (A ++ (if B = [] then [] else 46 :: B)) [46]).2.2]) = _
  rw [hc1, hc2]
 unfold pva pe
 by_cases h18 : 18 < B.length
 ·rw [if_pos h18, if_neg (by decide)]
  exact parse_b s w hi _ A B b _ hC hD (decide_eq_true (by omega))
 ·rw [if_neg h18]
  have hl : decide ((B.length : Int) > 18) = false := decide_eq_false (by omega)
  have hy : (⟨A.toArray⟩ : ByteArray) ++ ⟨B.toArray⟩ = ⟨(A ++ B).toArray⟩ := by
   have e : by8 ((⟨A.toArray⟩ : ByteArray) ++ ⟨B.toArray⟩) = A ++ B := by rw [by8_app]
   calc (⟨A.toArray⟩ : ByteArray) ++ ⟨B.toArray⟩ = ⟨((⟨A.toArray⟩ : ByteArray) ++ ⟨B.toArray⟩).data⟩ := rfl
    _ = ⟨(by8 ((⟨A.toArray⟩ : ByteArray) ++ ⟨B.toArray⟩)).toArray⟩ := by rw [Array.toArray_toList]
    _ = ⟨(A ++ B).toArray⟩ := by rw [e]
  have hZ : ∀ w, Calls Tryd.prog 62 #[.string ⟨(A ++ B).toArray⟩] w fun e w' => e = .returned (tx (woz (A ++ B))) ∧ Mo w w' := fun w => withoutZeros_n ⟨(A ++ B).toArray⟩ w
  have hwl := woz_len2 (L := A ++ B) (by simp [h.ne])
  simp only [List.length_append] at hwl
  have hP := fun w => lp_n (cn_woz h.dg) (by omega) w
  unfold maxLen at hs
  by_cases hM : nof A B < MM
  ·rw [if_pos hM, if_pos rfl]
   have hM' : pv (woz (A ++ B)) < MM := hM
   simp only [if_pos hM'] at hP
   exact parse_d s w hi _ A B b _ hC hD _ hl (by omega) _ hy hZ _ 0 hP rfl
  ·rw [if_neg hM, if_neg (by decide)]
   have hM' : ¬ pv (woz (A ++ B)) < MM := hM
   simp only [if_neg hM'] at hP
   exact parse_c s w hi _ A B b _ hC hD _ hl (by omega) _ hy hZ _ 7 hP rfl
theorem parse13_no {s : ByteArray} (h : isDec s = false) (hs : s.size ≤ maxLen) (w : World) : Calls Tryd.prog 48 #[.string s] w fun e w' => e = .returned (er 30) ∧ Mo w w' :=
 parse_a s w (fun w => by have := isDec_n s w hs; rw [h] at this; exact this)
end Go.Proofs.YthgknegocfhdbaaDoor

/-
 Bytes put behind a slice of one's own, and a slice's bytes as a text: the laws of the steps.
-/
namespace Go.Proofs.YthgknegocfhdbaaDoor
open Go.RowKit
theorem bsl (c : Int) (w : World) : (Instr.buildSlice 62 1 #[(0, .int .u8 c)]).run Tryd.prog w = .ok (.slice (some ⟨w.heap.size, 0, none⟩) 1 1) (w.alloc (.cells #[.int .u8 c] 5)) := by kernel_rfl
theorem inf5 : ∃ i, Tryd.prog.info? 5 = some i ∧ i.zero = some (.int .u8 0) ∧ i.size = 1 ∧ i.bytes = 1 := by
 have h : (Tryd.prog.info? 5).map (fun i => (i.zero, i.size, i.bytes)) = some (some (.int .u8 0), 1, 1) := by kernel_rfl
 cases hi : Tryd.prog.info? 5 with
 | none => rw [hi] at h; cases h
 | some i =>
  rw [hi] at h
  simp at h
  exact ⟨i, rfl, h.1, h.2.1, h.2.2⟩
structure AppW (v : Value) (w w' : World) : Prop where
 os : w'.os = w.os
 tape : w'.tape = w.tape
 output : w'.output = w.output
 size : w.heap.size ≤ w'.heap.size
 block : ∀ k, k < w.heap.size → v.ownBlock ≠ some k → w'.heap[k]? = w.heap[k]?
 fz : ∀ a, w'.frozen? a = w.frozen? a
theorem AppW.at {v : Value} {w w' : World} (h : AppW v w w') {j : Nat} {vs : List Value} (hA : At w j vs) (hn : v.ownBlock ≠ some j) : At w' j vs :=
 ⟨fun i u hu => (World.cell?_of_block (a := ⟨j, 0 + i, none⟩) (h.block j hA.2.2 hn)).trans (hA.1 i u hu), fun o => (h.fz _).trans (hA.2.1 o), Nat.lt_of_lt_of_le hA.2.2 h.size⟩
theorem AppW.mo {v : Value} {w w' a : World} (h : AppW v w w') (hM : Mo a w) (hn : ∀ k, v.ownBlock = some k → a.heap.size ≤ k) : Mo a w' :=
 ⟨⟨h.os.trans hM.1.os, h.tape.trans hM.1.tape, h.output.trans hM.1.output, Nat.le_trans hM.1.size h.size, fun k hk => (h.block k (Nat.lt_of_lt_of_le hk hM.1.size) (fun e => by have := hn k e; omega)).trans (hM.1.block k hk)⟩, fun x => (h.fz x).trans (hM.2 x)⟩
structure St2 (k : Nat) (w w' : World) : Prop extends St k w w' where
 os : w'.os = w.os
 tape : w'.tape = w.tape
 output : w'.output = w.output
 block : ∀ j, j ≠ k → w'.heap[j]? = w.heap[j]?
theorem heap_setCells (k j : Nat) (hj : j ≠ k) : ∀ (l : List Value) (o : Nat) (w : World), (w.setCells k o l).heap[j]? = w.heap[j]? ∧ (w.setCells k o l).os = w.os ∧ (w.setCells k o l).tape = w.tape ∧ (w.setCells k o l).output = w.output
 | [], _, _ => ⟨rfl, rfl, rfl, rfl⟩
 | v :: r, o, w => by
  have h := heap_setCells k j hj r (o + 1) (w.setCell ⟨k, o, none⟩ v)
  rw [World.setCells]
  refine ⟨h.1.trans ?_, h.2.1.trans rfl, h.2.2.1.trans rfl, h.2.2.2.trans rfl⟩
  simp [World.setCell, Array.getElem?_modify, Ne.symm hj]
theorem St2.mk2 (w : World) (k o : Nat) (l : List Value) : St2 k w (w.setCells k o l) :=
 { St.mk' w k o l with
  os := (heap_setCells k (k + 1) (by omega) l o w).2.1
  tape := (heap_setCells k (k + 1) (by omega) l o w).2.2.1
  output := (heap_setCells k (k + 1) (by omega) l o w).2.2.2
  block := fun j hj => (heap_setCells k j hj l o w).1 }
theorem own_st {w w' : World} {N k : Nat} {v : Value} {n : Nat} {xs : List Value} (m : St2 k w w') (h : w.ownsRow N 5 1 v n xs) (hne : v.ownBlock ≠ some k) : w'.ownsRow N 5 1 v n xs :=
 h.kept (row := some k) ⟨m.os, m.tape, m.output, Nat.le_of_eq m.size.symm, fun j _ hj => m.block j (fun e => hj (by rw [e]))⟩ (Or.inr hne)
section
variable {P : Program} {o : Oper} {n : Nat} {l : List (Nat × Value)} {w : World} {ops : Array Oper} {rest : List Oper} {Q : Exit → Act → World → Prop}
theorem wl_stx (ty : TypeId) (x y : Operand) (k off : Nat) (us : Array Value) (vs vs' : List Value) (hA : At w k vs) (ho : o.op = .store ty x y) (hd : o.dst = none) (hx : evl n l x = pt k off) (hy : evl n l y = .agg us)
  (hl : Nat.ble (off + us.size) vs.length = true) (hi : (P.info? ty).map (·.size) = some us.size) (h1 : us.toList.all (·.oneCell') = true) (hvs : vs' = vs.take off ++ us.toList ++ vs.drop (off + us.toList.length)) (hg : wnt n l ops o = true)
  (hk : ∀ w', St2 k w w' → At w' k vs' → WL P ops Q rest n l w') : WL P ops Q (o :: rest) n l w :=
 ⟨l_step hg (o_store ty x y _ _ ho hd hx hy (run_put hA ty off us (Nat.le_of_ble_eq_true hl) hi (by rw [← Array.all_toList]; exact h1)) (hk _ (St2.mk2 w k off us.toList) (hA.set off us.toList (by have := Nat.le_of_ble_eq_true hl; simpa using this) vs' hvs)).out)⟩
end
theorem own_mo {w w' : World} {N : Nat} {v : Value} {n : Nat} {xs : List Value} (h : w.ownsRow N 5 1 v n xs) (m : Mo w w') : w'.ownsRow N 5 1 v n xs :=
 h.kept (row := none) ⟨m.1.os, m.1.tape, m.1.output, m.1.size, fun k hk _ => m.1.block k hk⟩ (by cases e : v.ownBlock <;> simp)
section
variable {o : Oper} {n : Nat} {l : List (Nat × Value)} {w : World} {ops : Array Oper} {rest : List Oper} {Q : Exit → Act → World → Prop}
theorem wl_bsl (x : Operand) (c : Int) (ho : o.op = .buildSlice 62 1 #[(0, x)]) (hx : evl n l x = .int .u8 c) (hg : wnt n l ops o = true)
  (hk : ∀ k w', w.heap.size = k → w'.heap.size = k + 1 → Mo w w' → At w' k [.int .u8 c] → WL Tryd.prog ops Q rest n (ext l o.dst (.slice (some ⟨k, 0, none⟩) 1 1)) w') : WL Tryd.prog ops Q (o :: rest) n l w :=
 ⟨l_step hg (o_val (.slice (some ⟨w.heap.size, 0, none⟩) 1 1) (w' := w.alloc (.cells #[.int .u8 c] 5)) (by simp [execOp, ho, hx, bsl]) (hk _ _ rfl (by simp) ((Mo.refl _).alloc _ _) (At.new w #[.int .u8 c] 5)).out)⟩
end
theorem own_at {w : World} {N g cap n : Nat} {xs : List Value} (h : w.ownsRow N 5 1 (.slice (some ⟨g, 0, none⟩) n cap) n xs) : At w g xs := by
 have hl := h.1
 refine ⟨fun j v hv => ?_, fun o => h.frozenAt o, (h.lt g rfl).2⟩
 have hj : j < xs.length := (List.getElem?_eq_some_iff.1 hv).1
 rw [Nat.zero_add, h.cellAt j (by omega)]; exact hv
theorem str_run (w : World) (g c : Nat) (ns : List Int) (hA : At w g (ns.map (Value.int .u8))) (m : Nat) (hm : m = ns.length) : (convert 62 9 (.slice (some ⟨g, 0, none⟩) m c)).run Tryd.prog w = .ok (.string (strOf ns)) w := by
 subst hm
 rw [run_convert_bytes_string w 62 9 5 _ _ _ Tryd.underlying62 Tryd.underlying5 Tryd.underlying9, run_bytesToString w _ _ _ ns]
 ·rfl
 ·have := run_loadCells_list (P := Tryd.prog) w ⟨g, 0, none⟩ (ns.map (Value.int .u8)) (fun j v hv => by rw [Addr.add_mid]; exact hA.1 j v hv)
  simpa using this
end Go.Proofs.YthgknegocfhdbaaDoor

/-
 exciseref03.Parse: the number of a text.
-/
namespace Go.Proofs.YthgknegocfhdbaaDoor
open Go.RowKit
theorem app2 (w : World) (ty : TypeId) (N : Nat) (v : Value) (n : Nat) (xs : List Value) (hown : w.ownsRow N 5 1 v n xs) (k : Nat) (c : Int) (hA : At w k [.int .u8 c]) (hn : n + 1 ≤ 140737488355328) (hN : N ≤ w.heap.size) :
  ∃ v' w', (Builtin.append_ #[62, 62] ty #[v, .slice (some ⟨k, 0, none⟩) 1 1]).run Tryd.prog w = .ok v' w' ∧ w'.ownsRow N 5 1 v' (n + 1) (xs ++ [.int .u8 c]) ∧ AppW v w w' ∧ (v'.ownBlock = v.ownBlock ∨ v'.ownBlock = some w.heap.size) := by
 obtain ⟨i, hi, hz, hs, hby⟩ := inf5
 have hnews : ∀ j u, ([Value.int .u8 c] : List Value)[j]? = some u → w.cell? ((⟨k, 0, none⟩ : Addr).add j) = some u := fun j u hu => by
  rw [Addr.add_mid]; have := hA.1 j u hu; simpa using this
 obtain ⟨v', w', hr, h2, h3, _, h5⟩ := run_append_own_at (P := Tryd.prog) w N 62 ty 5 i (.int .u8 0) 1 1 Tryd.underlying62 hi hz hs hby rfl (by decide) v n xs hown ⟨k, 0, none⟩ 1 1 [.int .u8 c] rfl hnews (by simp [Value.oneCell']) (by unfold maxLen; omega) (by omega) hN
 refine ⟨v', w', hr, h2, ⟨h3.os, h3.tape, h3.output, h3.size, fun j hj hne => h3.block j hj (fun e => hne e.symm), ?_⟩, h5⟩
 -- the marks: arm by arm
 rcases hown.2 with ⟨rfl, rfl⟩ | ⟨g, cap, cur, rfl, hbg, hg, hnc, hcm, hcs, htake⟩
 ·have hr2 := run_append_nil (P := Tryd.prog) w 62 ty 5 i (.int .u8 0) Tryd.underlying62 hi hz ⟨k, 0, none⟩ 1 1 [.int .u8 c] (by rw [hs]; rfl) hnews (by decide) (by decide) (by omega)
  rw [hr2] at hr
  cases hr
  exact ((Mo.refl w).drew.alloc _ _).2
 ·by_cases hroom : n + 1 ≤ cap
  ·have hr2 := run_append_room (P := Tryd.prog) w 62 ty 5 i Tryd.underlying62 hi g n cap cur hg ⟨k, 0, none⟩ 1 1 [.int .u8 c] (by rw [hs]; rfl) hnews (by simp [Value.oneCell']) hroom (by rw [hs]; simp; omega)
   rw [hr2] at hr
   cases hr
   intro a
   by_cases e : a.block = g
   ·have h1 := setRow_heap w g cur (cur.toList.take (n * i.size) ++ [Value.int .u8 c] ++ cur.toList.drop (n * i.size + [Value.int .u8 c].length)).toArray 5 (0, 0) hg
    simp only [World.frozen?, e, h1, hg]
   ·exact World.frozen?_of_block (setRow_other w g a.block _ e)
  ·have hr2 := run_append_grow (P := Tryd.prog) w 62 ty 5 i (.int .u8 0) Tryd.underlying62 hi hz ⟨g, 0, none⟩ n cap xs (by rw [hs]; exact hown.1) (hown.cells (g := g) rfl) ⟨k, 0, none⟩ 1 1 [.int .u8 c] (by rw [hs]; rfl) hnews (by omega) (by omega) (by rw [hby]; exact growslice_fits (by omega) (by omega))
   rw [hr2] at hr
   cases hr
   exact ((Mo.refl w).drew.alloc _ _).2
section
variable {o : Oper} {n : Nat} {l : List (Nat × Value)} {w : World} {ops : Array Oper} {rest : List Oper} {Q : Exit → Act → World → Prop}
theorem wl_app2 (s x : Operand) (N : Nat) (v : Value) (m : Nat) (xs : List Value) (k : Nat) (c : Int) (ho : o.op = .call { callee := .builtin .append, args := #[s, x], argTypes := #[62, 62] }) (hs : evl n l s = v) (hx : evl n l x = .slice (some ⟨k, 0, none⟩) 1 1)
  (hown : w.ownsRow N 5 1 v m xs) (hA : At w k [.int .u8 c]) (hm : m + 1 ≤ 140737488355328) (hN : N ≤ w.heap.size) (hg : wnt n l ops o = true)
  (hk : ∀ v' w', w'.ownsRow N 5 1 v' (m + 1) (xs ++ [.int .u8 c]) → AppW v w w' → (v'.ownBlock = v.ownBlock ∨ v'.ownBlock = some w.heap.size) → WL Tryd.prog ops Q rest n (ext l o.dst v') w') : WL Tryd.prog ops Q (o :: rest) n l w := by
 obtain ⟨v', w', hr, h2, h3, h4⟩ := app2 w o.type N v m xs hown k c hA hm hN
 refine ⟨l_step hg (o_val v' (w' := w') ?_ (hk v' w' h2 h3 h4).out)⟩
 unfold execOp
 simp only [ho, resolve, invoke, builtin, Sem.run_bind, Sem.run_pure, Result.andThen_ok, List.map_toArray, List.map_cons, List.map_nil, hs, hx, hr]
end
theorem lens_r2 (ρ : Operand → Value) (x : Operand) (p : Option Addr) (m c : Nat) (hx : ρ x = .slice p m c) (dst : Option Tmp) (type : TypeId) (pos : String) (after : Array Edge) (guard : Option (Nat × Bool)) (w : World) : (execOp ρ { dst, op := .call { callee := .builtin .len, args := #[x], argTypes := #[62] }, type, pos, after, guard }).run Tryd.prog w = .ok (.value (.int .i64 (m : Int))) w := by
 simp [go_sem, hx]
theorem own_form {w : World} {N n : Nat} {v : Value} {xs : List Value} (h : w.ownsRow N 5 1 v n xs) : ∃ p c, v = .slice p n c := by
 rcases h.2 with ⟨rfl, rfl⟩ | ⟨g, cap, cur, rfl, _⟩
 ·exact ⟨none, 0, rfl⟩
 ·exact ⟨_, cap, rfl⟩
def pr (s : ByteArray) (i : Nat) (a : List Int) (h : Nat) (q : Bool) : List Int × Nat :=
 if _h : i < s.size then
  if bt s i == 46 then pr s (i + 1) a h true
  else if dgt (bt s i) then pr s (i + 1) (if decide (0 < a.length) || !(bt s i == 48) then a ++ [bt s i] else a) (if q then h + 1 else h) q
  else pr s (i + 1) a h q
 else (a, h)
termination_by s.size - i
theorem pr_out {s : ByteArray} {i : Nat} {a : List Int} {h : Nat} {q : Bool} (hi : ¬ i < s.size) : pr s i a h q = (a, h) := by rw [pr, dif_neg hi]
theorem pr_in {s : ByteArray} {i : Nat} {a : List Int} {h : Nat} {q : Bool} (hi : i < s.size) : pr s i a h q = if bt s i == 46 then pr s (i + 1) a h true
  else if dgt (bt s i) then pr s (i + 1) (if decide (0 < a.length) || !(bt s i == 48) then a ++ [bt s i] else a) (if q then h + 1 else h) q
  else pr s (i + 1) a h q := by rw [pr, dif_pos hi]
abbrev prs (s : ByteArray) : List Int × Nat := pr s 0 [] 0 false
def rps (s : ByteArray) (N E : Int) : Value :=
 if whl s = false then er 30 else if 18 < (prs s).2 then er 31 else if (prs s).1.length = 0 then .tuple #[dc (bt s 0 == 45) 0 ((prs s).2 : Int), .int .i64 0]
 else if (E == 0) = false then er E else .tuple #[dc (bt s 0 == 45) N ((prs s).2 : Int), .int .i64 0]
theorem whl_pos {s : ByteArray} (h : whl s = true) : 0 < s.size := by
 rw [whl_dec] at h
 unfold isDec at h
 rw [emp_iff] at h
 by_cases h0 : s.size = 0
 ·rw [decide_eq_true h0] at h; cases h
 ·omega
theorem whole_c {s : ByteArray} {r : Bool} (hs : s.size ≤ maxLen) (h : whl s = r) (w : World) : Calls Tryd.prog 50 #[.string s] w fun e w' => e = .returned (.bool r) ∧ Mo w w' := h ▸ whole_n s w hs
theorem ne30 {a b : Int} {r : Bool} (h : (a == b) = r) (x y : Operand) (w : World) : (do eqGuard .neq 23 x y (.int .i64 a) (.int .i64 b); binOp .neq 23 (.int .i64 a) (.int .i64 b)).run Tryd.prog w = .ok (.bool (!r)) w := by
 subst h; kernel_rfl
theorem eqz5 {a b : Int} (x y : Operand) (w : World) : (do eqGuard .eql 5 x y (.int .u8 a) (.int .u8 b); binOp .eql 5 (.int .u8 a) (.int .u8 b)).run Tryd.prog w = .ok (.bool (a == b)) w := by kernel_rfl
theorem rpa_n (s : ByteArray) (N E : Int) (w : World) (hs : s.size ≤ maxLen) (hsz0 : s.size ≤ 140737488355328) (hrp : (prs s).1 ≠ [] → ∀ w, Calls Tryd.prog 51 #[.string (strOf (prs s).1)] w fun e w' => e = .returned (.tuple #[nv N, .int .i64 E]) ∧ Mo w w') : Calls Tryd.prog 33 #[.string s] w fun e w' => e = .returned (rps s N E) ∧ Mo w w' := by
 refine w_enter 75 Tryd.func33 Tryd.ntmps33 rfl rfl ?_
 have M : Mo w w := Mo.refl _
 refine w_seq (w_reg ?_)
 refine wl_alloc 33 #[.bool false, .int .u64 0, .int .u64 0, .int .u64 0, .int .u64 0, .int .i64 0] rfl (fun _ => by kernel_rfl) rfl ?_
 intro k1 w1 hk hz hq Q1
 have N_k1 : w.heap.size ≤ k1 := by have := M.size; omega
 replace M := M.trans hq
 clear hk hz hq
 refine wl_m (.const (.int .i64 (0))) (.int .i64 (0)) ?_
 refine w_nil (xn_then (w_seq (w_seq ?_)))
 cases hf0 : whl s with
 | true =>
  refine w_reg ?_
  refine wl_m (.tmp 0) (.string s) ?_
  refine wl_call 50 [(.tmp 11)] _ [.string s] (.bool true) rfl rfl (fun _ _ => by kernel_rfl) (whole_c hs hf0 _) rfl ?_
  intro w2 hq
  replace Q1 := Q1.mo hq
  replace M := M.trans hq
  clear hq
  refine wl_un (fun v => Op.unary .not v) (.tmp 12) (.bool true) (.bool false) (fun _ => rfl) rfl (by kernel_rfl) rfl ?_
  refine w_nil (xn_then (w_condF rfl (w_skip (xn_then (w_seq (w_reg ?_))))))
  refine wl_m (.tmp 0) (.string s) ?_
  refine wl_bin (fun x y => Instr.index 9 x y) (.tmp 15) (.const (.int .i64 (0))) (.string s) (.int .i64 (0)) (.int .u8 (bt s 0)) (fun _ => rfl) rfl rfl (idx_b (k := 0) (whl_pos hf0) _) rfl ?_
  refine wl_b .eql 5 (.tmp 16) (.const (.int .u8 (45))) (.int .u8 (bt s 0)) (.int .u8 (45)) (.bool (bt s 0 == 45)) (eqz5 _ _ _) ?_
  refine wl_build 33 [(0, (.tmp 17))] [(0, .bool (bt s 0 == 45))] (.agg #[.bool (bt s 0 == 45), .int .u64 0, .int .u64 0, .int .u64 0, .int .u64 0, .int .i64 0]) rfl rfl (by kernel_rfl) rfl ?_
  refine wl_alloc 33 #[.bool false, .int .u64 0, .int .u64 0, .int .u64 0, .int .u64 0, .int .i64 0] rfl (fun _ => by kernel_rfl) rfl ?_
  intro k2 w3 hk hz hq Q2
  have ne_k1_k2 : k1 ≠ k2 := by have := Q1.lt; omega
  have N_k2 : w.heap.size ≤ k2 := by have := M.size; omega
  replace Q1 := Q1.mo hq
  replace M := M.trans hq
  clear hk hz hq
  refine wl_st 33 (.tmp 4) (.tmp 18) k2 0 #[.bool (bt s 0 == 45), .int .u64 0, .int .u64 0, .int .u64 0, .int .u64 0, .int .i64 0] _ [.bool (bt s 0 == 45), .int .u64 0, .int .u64 0, .int .u64 0, .int .u64 0, .int .i64 0] Q2 rfl rfl rfl rfl rfl sz26 rfl rfl rfl ?_
  intro w4 hS Qn
  replace Q2 := Qn
  clear Qn
  replace Q1 := hS.other _ _ ne_k1_k2 Q1
  replace M := hS.mo _ N_k2 M
  clear hS
  refine w_nil (xn_then (w_seq (w_reg ?_)))
  refine wl_m (.const (.slice none 0 0)) (.slice none 0 0) ?_
  refine w_nil (xn_then (w_seq (w_reg ?_)))
  refine wl_m (.const (.int .i64 (0))) (.int .i64 (0)) ?_
  refine w_nil (xn_then (w_seq (w_reg ?_)))
  refine wl_m (.const (.bool false)) (.bool false) ?_
  refine w_nil (xn_then ?_)
  refine w_cut (fun l w1 => ∃ (p : Option Addr) (cv h : Nat) (xs : List Int), look l 2 = pt k1 0 ∧ look l 4 = pt k2 0 ∧ look l 5 = .slice p xs.length cv ∧ look l 6 = .int .i64 (h : Int) ∧ (xs ≠ [] → ∃ g, p = some ⟨g, 0, none⟩ ∧ g ≠ k1 ∧ g ≠ k2 ∧ At w1 g (xs.map (Value.int .u8)) ∧ w.heap.size ≤ g) ∧ At w1 k1 z40l ∧ At w1 k2 [.bool (bt s 0 == 45), .int .u64 0, .int .u64 0, .int .u64 0, .int .u64 0, .int .i64 (0)] ∧ prs s = (xs, h) ∧ Mo w w1) ?_ ?_
  ·skip
   clear M Q1 Q2
   rintro l wc ⟨p, cv, h, xs, e2, e4, e5, e6, hg, Q1, Q2, hR, M⟩
   by_cases hx : xs = []
   ·have hxl : decide (xs.length = 0) = true := by rw [hx]; rfl
    refine w_seq (w_seq ?_)
    cases hf1 : decide (18 < h) with
    | true =>
     have hf1p := of_decide_eq_true hf1
     refine w_reg ?_
     refine wl_mv (.tmp 6) (.int .i64 ((h : Nat) : Int)) (fun _ => rfl) e6 rfl ?_
     refine wl_b .gtr 3 (.tmp 53) (.const (.int .i64 (18))) (.int .i64 ((h : Nat) : Int)) (.int .i64 (18)) (.bool true) (gtN hf1 _ _ _) ?_
     refine w_nil (xn_then (w_condT rfl (w_seq (w_reg ?_))))
     refine wl_build 33 [] [] (.agg #[.bool false, .int .u64 0, .int .u64 0, .int .u64 0, .int .u64 0, .int .i64 0]) rfl rfl (by kernel_rfl) rfl ?_
     refine wl_st 33 (.tmp 2) (.tmp 55) k1 0 #[.bool false, .int .u64 0, .int .u64 0, .int .u64 0, .int .u64 0, .int .i64 0] _ [.bool false, .int .u64 0, .int .u64 0, .int .u64 0, .int .u64 0, .int .i64 0] Q1 rfl rfl e2 rfl rfl sz26 rfl rfl rfl ?_
     intro w41 hS Qn
     replace Q1 := Qn
     clear Qn
     replace Q2 := hS.other _ _ ne_k1_k2.symm Q2
     replace M := hS.mo _ N_k1 M
     clear hS
     refine wl_m (.const (.int .i64 (31))) (.int .i64 (31)) ?_
     refine w_nil (xn_then (w_ret (xr_then ?_)))
     have hfin : rps s N E = .tuple #[.agg #[.bool false, .int .u64 0, .int .u64 0, .int .u64 0, .int .u64 0, .int .i64 0], .int .i64 (31)] := by unfold rps; rw [if_neg (by rw [hf0]; simp), hR, if_pos (of_decide_eq_true hf1)]; try rfl
     exact w_ret2 _ _ (.agg #[.bool false, .int .u64 0, .int .u64 0, .int .u64 0, .int .u64 0, .int .i64 0]) (.int .i64 (31)) rfl ⟨k1, e2, (run_row Q1 33 0 6 _ rfl Tryd.underlying33 rfl sz26)⟩ rfl ⟨by rw [hfin], M⟩
    | false =>
     have hf1p := of_decide_eq_false hf1
     refine w_reg ?_
     refine wl_mv (.tmp 6) (.int .i64 ((h : Nat) : Int)) (fun _ => rfl) e6 rfl ?_
     refine wl_b .gtr 3 (.tmp 53) (.const (.int .i64 (18))) (.int .i64 ((h : Nat) : Int)) (.int .i64 (18)) (.bool false) (gtN hf1 _ _ _) ?_
     refine w_nil (xn_then (w_condF rfl (w_skip (xn_then (w_seq (w_reg ?_))))))
     refine wl_mv (.tmp 6) (.int .i64 ((h : Nat) : Int)) (fun _ => rfl) e6 rfl ?_
     refine wl_un (fun v => Instr.fieldAt 33 v 2) (.tmp 4) (pt k2 0) (pt k2 5) (fun _ => rfl) e4 (by kernel_rfl) rfl ?_
     refine wl_st1 3 (.tmp 57) (.tmp 56) k2 5 (.int .i64 ((h : Nat) : Int)) _ [.bool (bt s 0 == 45), .int .u64 0, .int .u64 0, .int .u64 0, .int .u64 0, .int .i64 ((h : Nat) : Int)] Q2 rfl rfl rfl rfl rfl sz3 rfl rfl rfl rfl ?_
     intro w41 hS Qn
     replace Q2 := Qn
     clear Qn
     replace Q1 := hS.other _ _ ne_k1_k2 Q1
     replace M := hS.mo _ N_k2 M
     clear hS
     refine w_nil (xn_then (w_seq (w_seq (w_reg ?_))))
     refine wl_mv (.tmp 5) (.slice p xs.length cv) (fun _ => rfl) e5 rfl ?_
     refine wl_val (.int .i64 ((xs.length : Nat) : Int)) (lens_r2 _ _ _ _ cv (by exact rfl) _ _ _ _ _ _) rfl ?_
     refine wl_b .eql 3 (.tmp 59) (.const (.int .i64 (0))) (.int .i64 ((xs.length : Nat) : Int)) (.int .i64 (0)) (.bool true) (eqN hxl _ _ _) ?_
     refine w_nil (xn_then (w_condT rfl (w_seq (w_reg ?_))))
     refine wl_load 33 (.tmp 4) (pt k2 0) (.agg #[.bool (bt s 0 == 45), .int .u64 0, .int .u64 0, .int .u64 0, .int .u64 0, .int .i64 ((h : Nat) : Int)]) rfl e4 (run_row Q2 33 0 6 _ rfl Tryd.underlying33 rfl sz26) rfl ?_
     refine wl_st 33 (.tmp 2) (.tmp 61) k1 0 #[.bool (bt s 0 == 45), .int .u64 0, .int .u64 0, .int .u64 0, .int .u64 0, .int .i64 ((h : Nat) : Int)] _ [.bool (bt s 0 == 45), .int .u64 0, .int .u64 0, .int .u64 0, .int .u64 0, .int .i64 ((h : Nat) : Int)] Q1 rfl rfl e2 rfl rfl sz26 rfl rfl rfl ?_
     intro w42 hS Qn
     replace Q1 := Qn
     clear Qn
     replace Q2 := hS.other _ _ ne_k1_k2.symm Q2
     replace M := hS.mo _ N_k1 M
     clear hS
     refine wl_m (.const (.int .i64 (0))) (.int .i64 (0)) ?_
     refine w_nil (xn_then (w_ret (xr_then ?_)))
     have hfin : rps s N E = .tuple #[.agg #[.bool (bt s 0 == 45), .int .u64 0, .int .u64 0, .int .u64 0, .int .u64 0, .int .i64 ((h : Nat) : Int)], .int .i64 (0)] := by unfold rps; rw [if_neg (by rw [hf0]; simp), hR, if_neg (of_decide_eq_false hf1), if_pos (of_decide_eq_true hxl)]; try rfl
     exact w_ret2 _ _ (.agg #[.bool (bt s 0 == 45), .int .u64 0, .int .u64 0, .int .u64 0, .int .u64 0, .int .i64 ((h : Nat) : Int)]) (.int .i64 (0)) rfl ⟨k1, e2, (run_row Q1 33 0 6 _ rfl Tryd.underlying33 rfl sz26)⟩ rfl ⟨by rw [hfin], M⟩
   ·obtain ⟨g, rfl, ne_g_k1, ne_g_k2, Qg, hgN⟩ := hg hx
    have hxl : decide (xs.length = 0) = false := decide_eq_false (fun e => hx (List.eq_nil_of_length_eq_zero e))
    have hrp2 : ∀ w, Calls Tryd.prog 51 #[.string (strOf xs)] w fun e w' => e = .returned (.tuple #[nv N, .int .i64 E]) ∧ Mo w w' := by have := hrp (by rw [hR]; exact hx); rw [hR] at this; exact this
    refine w_seq (w_seq ?_)
    cases hf1 : decide (18 < h) with
    | true =>
     have hf1p := of_decide_eq_true hf1
     refine w_reg ?_
     refine wl_mv (.tmp 6) (.int .i64 ((h : Nat) : Int)) (fun _ => rfl) e6 rfl ?_
     refine wl_b .gtr 3 (.tmp 53) (.const (.int .i64 (18))) (.int .i64 ((h : Nat) : Int)) (.int .i64 (18)) (.bool true) (gtN hf1 _ _ _) ?_
     refine w_nil (xn_then (w_condT rfl (w_seq (w_reg ?_))))
     refine wl_build 33 [] [] (.agg #[.bool false, .int .u64 0, .int .u64 0, .int .u64 0, .int .u64 0, .int .i64 0]) rfl rfl (by kernel_rfl) rfl ?_
     refine wl_st 33 (.tmp 2) (.tmp 55) k1 0 #[.bool false, .int .u64 0, .int .u64 0, .int .u64 0, .int .u64 0, .int .i64 0] _ [.bool false, .int .u64 0, .int .u64 0, .int .u64 0, .int .u64 0, .int .i64 0] Q1 rfl rfl e2 rfl rfl sz26 rfl rfl rfl ?_
     intro w41 hS Qn
     replace Q1 := Qn
     clear Qn
     replace Q2 := hS.other _ _ ne_k1_k2.symm Q2
     replace Qg := hS.other _ _ ne_g_k1 Qg
     replace M := hS.mo _ N_k1 M
     clear hS
     refine wl_m (.const (.int .i64 (31))) (.int .i64 (31)) ?_
     refine w_nil (xn_then (w_ret (xr_then ?_)))
     have hfin : rps s N E = .tuple #[.agg #[.bool false, .int .u64 0, .int .u64 0, .int .u64 0, .int .u64 0, .int .i64 0], .int .i64 (31)] := by unfold rps; rw [if_neg (by rw [hf0]; simp), hR, if_pos (of_decide_eq_true hf1)]; try rfl
     exact w_ret2 _ _ (.agg #[.bool false, .int .u64 0, .int .u64 0, .int .u64 0, .int .u64 0, .int .i64 0]) (.int .i64 (31)) rfl ⟨k1, e2, (run_row Q1 33 0 6 _ rfl Tryd.underlying33 rfl sz26)⟩ rfl ⟨by rw [hfin], M⟩
    | false =>
     have hf1p := of_decide_eq_false hf1
     refine w_reg ?_
     refine wl_mv (.tmp 6) (.int .i64 ((h : Nat) : Int)) (fun _ => rfl) e6 rfl ?_
     refine wl_b .gtr 3 (.tmp 53) (.const (.int .i64 (18))) (.int .i64 ((h : Nat) : Int)) (.int .i64 (18)) (.bool false) (gtN hf1 _ _ _) ?_
     refine w_nil (xn_then (w_condF rfl (w_skip (xn_then (w_seq (w_reg ?_))))))
     refine wl_mv (.tmp 6) (.int .i64 ((h : Nat) : Int)) (fun _ => rfl) e6 rfl ?_
     refine wl_un (fun v => Instr.fieldAt 33 v 2) (.tmp 4) (pt k2 0) (pt k2 5) (fun _ => rfl) e4 (by kernel_rfl) rfl ?_
     refine wl_st1 3 (.tmp 57) (.tmp 56) k2 5 (.int .i64 ((h : Nat) : Int)) _ [.bool (bt s 0 == 45), .int .u64 0, .int .u64 0, .int .u64 0, .int .u64 0, .int .i64 ((h : Nat) : Int)] Q2 rfl rfl rfl rfl rfl sz3 rfl rfl rfl rfl ?_
     intro w41 hS Qn
     replace Q2 := Qn
     clear Qn
     replace Q1 := hS.other _ _ ne_k1_k2 Q1
     replace Qg := hS.other _ _ ne_g_k2 Qg
     replace M := hS.mo _ N_k2 M
     clear hS
     refine w_nil (xn_then (w_seq (w_seq (w_reg ?_))))
     refine wl_mv (.tmp 5) (.slice (some ⟨g, 0, none⟩) xs.length cv) (fun _ => rfl) e5 rfl ?_
     refine wl_val (.int .i64 ((xs.length : Nat) : Int)) (lens_r2 _ _ _ _ cv (by exact rfl) _ _ _ _ _ _) rfl ?_
     refine wl_b .eql 3 (.tmp 59) (.const (.int .i64 (0))) (.int .i64 ((xs.length : Nat) : Int)) (.int .i64 (0)) (.bool false) (eqN hxl _ _ _) ?_
     refine w_nil (xn_then (w_condF rfl (w_skip (xn_then (w_seq (w_reg ?_))))))
     refine wl_mv (.tmp 5) (.slice (some ⟨g, 0, none⟩) xs.length cv) (fun _ => rfl) e5 rfl ?_
     refine wl_un (fun v => convert 62 9 v) (.tmp 63) (.slice (some ⟨g, 0, none⟩) xs.length cv) (.string (strOf xs)) (fun _ => rfl) rfl (str_run _ g cv xs Qg _ rfl) rfl ?_
     refine wl_call 51 [(.tmp 64)] _ [.string (strOf xs)] (.tuple #[.agg #[.int .u64 (l0 N), .int .u64 (l1 N), .int .u64 (l2 N), .int .u64 (l3 N)], .int .i64 (E)]) rfl rfl (fun _ _ => by kernel_rfl) (hrp2 _) rfl ?_
     intro w42 hq
     replace Q1 := Q1.mo hq
     replace Q2 := Q2.mo hq
     replace Qg := Qg.mo hq
     replace M := M.trans hq
     clear hq
     refine wl_m (.tmp 65) (.tuple #[.agg #[.int .u64 (l0 N), .int .u64 (l1 N), .int .u64 (l2 N), .int .u64 (l3 N)], .int .i64 (E)]) ?_
     refine wl_un (fun v => Instr.extract v 0) (.tmp 62) (.tuple #[.agg #[.int .u64 (l0 N), .int .u64 (l1 N), .int .u64 (l2 N), .int .u64 (l3 N)], .int .i64 (E)]) (.agg #[.int .u64 (l0 N), .int .u64 (l1 N), .int .u64 (l2 N), .int .u64 (l3 N)]) (fun _ => rfl) rfl (by kernel_rfl) rfl ?_
     refine wl_un (fun v => Instr.extract v 1) (.tmp 62) (.tuple #[.agg #[.int .u64 (l0 N), .int .u64 (l1 N), .int .u64 (l2 N), .int .u64 (l3 N)], .int .i64 (E)]) (.int .i64 (E)) (fun _ => rfl) rfl (by kernel_rfl) rfl ?_
     refine wl_alloc 31 #[.int .u64 0, .int .u64 0, .int .u64 0, .int .u64 0] rfl (fun _ => by kernel_rfl) rfl ?_
     intro k3 w43 hk hz hq Q3
     have ne_k1_k3 : k1 ≠ k3 := by have := Q1.lt; omega
     have ne_k2_k3 : k2 ≠ k3 := by have := Q2.lt; omega
     have ne_g_k3 : g ≠ k3 := by have := Qg.lt; omega
     have N_k3 : w.heap.size ≤ k3 := by have := M.size; omega
     replace Q1 := Q1.mo hq
     replace Q2 := Q2.mo hq
     replace Qg := Qg.mo hq
     replace M := M.trans hq
     clear hk hz hq
     refine wl_st 31 (.tmp 9) (.tmp 66) k3 0 #[.int .u64 (l0 N), .int .u64 (l1 N), .int .u64 (l2 N), .int .u64 (l3 N)] _ [.int .u64 (l0 N), .int .u64 (l1 N), .int .u64 (l2 N), .int .u64 (l3 N)] Q3 rfl rfl rfl rfl rfl sz24 rfl rfl rfl ?_
     intro w44 hS Qn
     replace Q3 := Qn
     clear Qn
     replace Q1 := hS.other _ _ ne_k1_k3 Q1
     replace Q2 := hS.other _ _ ne_k2_k3 Q2
     replace Qg := hS.other _ _ ne_g_k3 Qg
     replace M := hS.mo _ N_k3 M
     clear hS
     refine wl_m (.tmp 67) (.int .i64 (E)) ?_
     refine w_nil (xn_then (w_seq (w_seq ?_)))
     cases hf2 : (E == 0) with
     | true =>
      refine w_reg ?_
      refine wl_m (.tmp 10) (.int .i64 (E)) ?_
      refine wl_b .neq 23 (.tmp 68) (.const (.int .i64 (0))) (.int .i64 (E)) (.int .i64 (0)) (.bool false) (ne30 hf2 _ _ _) ?_
      refine w_nil (xn_then (w_condF rfl (w_skip (xn_then (w_seq (w_reg ?_))))))
      refine wl_l 31 (.tmp 9) (pt k3 0) (.agg #[.int .u64 (l0 N), .int .u64 (l1 N), .int .u64 (l2 N), .int .u64 (l3 N)]) (run_row Q3 31 0 4 _ rfl Tryd.underlying31 rfl sz24) ?_
      refine wl_un (fun v => Instr.fieldAt 33 v 1) (.tmp 4) (pt k2 0) (pt k2 1) (fun _ => rfl) e4 (by kernel_rfl) rfl ?_
      refine wl_st 31 (.tmp 73) (.tmp 72) k2 1 #[.int .u64 (l0 N), .int .u64 (l1 N), .int .u64 (l2 N), .int .u64 (l3 N)] _ [.bool (bt s 0 == 45), .int .u64 (l0 N), .int .u64 (l1 N), .int .u64 (l2 N), .int .u64 (l3 N), .int .i64 ((h : Nat) : Int)] Q2 rfl rfl rfl rfl rfl sz24 rfl rfl rfl ?_
      intro w45 hS Qn
      replace Q2 := Qn
      clear Qn
      replace Q1 := hS.other _ _ ne_k1_k2 Q1
      replace Qg := hS.other _ _ ne_g_k2 Qg
      replace Q3 := hS.other _ _ ne_k2_k3.symm Q3
      replace M := hS.mo _ N_k2 M
      clear hS
      refine w_nil (xn_then (w_seq (w_reg ?_)))
      refine wl_load 33 (.tmp 4) (pt k2 0) (.agg #[.bool (bt s 0 == 45), .int .u64 (l0 N), .int .u64 (l1 N), .int .u64 (l2 N), .int .u64 (l3 N), .int .i64 ((h : Nat) : Int)]) rfl e4 (run_row Q2 33 0 6 _ rfl Tryd.underlying33 rfl sz26) rfl ?_
      refine wl_st 33 (.tmp 2) (.tmp 74) k1 0 #[.bool (bt s 0 == 45), .int .u64 (l0 N), .int .u64 (l1 N), .int .u64 (l2 N), .int .u64 (l3 N), .int .i64 ((h : Nat) : Int)] _ [.bool (bt s 0 == 45), .int .u64 (l0 N), .int .u64 (l1 N), .int .u64 (l2 N), .int .u64 (l3 N), .int .i64 ((h : Nat) : Int)] Q1 rfl rfl e2 rfl rfl sz26 rfl rfl rfl ?_
      intro w46 hS Qn
      replace Q1 := Qn
      clear Qn
      replace Q2 := hS.other _ _ ne_k1_k2.symm Q2
      replace Qg := hS.other _ _ ne_g_k1 Qg
      replace Q3 := hS.other _ _ ne_k1_k3.symm Q3
      replace M := hS.mo _ N_k1 M
      clear hS
      refine wl_m (.const (.int .i64 (0))) (.int .i64 (0)) ?_
      refine w_nil (xn_then (w_ret ?_))
      have hfin : rps s N E = .tuple #[.agg #[.bool (bt s 0 == 45), .int .u64 (l0 N), .int .u64 (l1 N), .int .u64 (l2 N), .int .u64 (l3 N), .int .i64 ((h : Nat) : Int)], .int .i64 (0)] := by unfold rps; rw [if_neg (by rw [hf0]; simp), hR, if_neg (of_decide_eq_false hf1), if_neg (of_decide_eq_false hxl), if_neg (by rw [hf2]; simp)]; try rfl
      exact w_ret2 _ _ (.agg #[.bool (bt s 0 == 45), .int .u64 (l0 N), .int .u64 (l1 N), .int .u64 (l2 N), .int .u64 (l3 N), .int .i64 ((h : Nat) : Int)]) (.int .i64 (0)) rfl ⟨k1, e2, (run_row Q1 33 0 6 _ rfl Tryd.underlying33 rfl sz26)⟩ rfl ⟨by rw [hfin], M⟩
     | false =>
      refine w_reg ?_
      refine wl_m (.tmp 10) (.int .i64 (E)) ?_
      refine wl_b .neq 23 (.tmp 68) (.const (.int .i64 (0))) (.int .i64 (E)) (.int .i64 (0)) (.bool true) (ne30 hf2 _ _ _) ?_
      refine w_nil (xn_then (w_condT rfl (w_seq (w_reg ?_))))
      refine wl_build 33 [] [] (.agg #[.bool false, .int .u64 0, .int .u64 0, .int .u64 0, .int .u64 0, .int .i64 0]) rfl rfl (by kernel_rfl) rfl ?_
      refine wl_m (.tmp 10) (.int .i64 (E)) ?_
      refine wl_st 33 (.tmp 2) (.tmp 70) k1 0 #[.bool false, .int .u64 0, .int .u64 0, .int .u64 0, .int .u64 0, .int .i64 0] _ [.bool false, .int .u64 0, .int .u64 0, .int .u64 0, .int .u64 0, .int .i64 0] Q1 rfl rfl e2 rfl rfl sz26 rfl rfl rfl ?_
      intro w45 hS Qn
      replace Q1 := Qn
      clear Qn
      replace Q2 := hS.other _ _ ne_k1_k2.symm Q2
      replace Qg := hS.other _ _ ne_g_k1 Qg
      replace Q3 := hS.other _ _ ne_k1_k3.symm Q3
      replace M := hS.mo _ N_k1 M
      clear hS
      refine wl_m (.tmp 71) (.int .i64 (E)) ?_
      refine w_nil (xn_then (w_ret (xr_then ?_)))
      have hfin : rps s N E = .tuple #[.agg #[.bool false, .int .u64 0, .int .u64 0, .int .u64 0, .int .u64 0, .int .i64 0], .int .i64 (E)] := by unfold rps; rw [if_neg (by rw [hf0]; simp), hR, if_neg (of_decide_eq_false hf1), if_neg (of_decide_eq_false hxl), if_pos hf2]; try rfl
      exact w_ret2 _ _ (.agg #[.bool false, .int .u64 0, .int .u64 0, .int .u64 0, .int .u64 0, .int .i64 0]) (.int .i64 (E)) rfl ⟨k1, e2, (run_row Q1 33 0 6 _ rfl Tryd.underlying33 rfl sz26)⟩ rfl ⟨by rw [hfin], M⟩
  ·skip
   refine w_seq (w_reg ?_)
   refine wl_m (.const (.int .i64 (0))) (.int .i64 (0)) ?_
   refine w_nil (xn_then (w_block ?_))
   refine w_loop (fun m l w1 => ∃ (i h : Nat) (q : Bool) (xs : List Int) (v : Value), m = s.size - i ∧ look l 0 = .string s ∧ look l 2 = pt k1 0 ∧ look l 4 = pt k2 0 ∧ look l 5 = v ∧ look l 6 = .int .i64 (h : Int) ∧ look l 7 = .bool q ∧ look l 8 = .int .i64 (i : Int) ∧ i ≤ s.size ∧ xs.length ≤ i ∧ h ≤ i ∧ At w1 k1 z40l ∧ At w1 k2 [.bool (bt s 0 == 45), .int .u64 0, .int .u64 0, .int .u64 0, .int .u64 0, .int .i64 (0)] ∧ w1.ownsRow w.heap.size 5 1 v xs.length (xs.map (Value.int .u8)) ∧ v.ownBlock ≠ some k1 ∧ v.ownBlock ≠ some k2 ∧ pr s i xs h q = prs s ∧ Mo w w1) _ ⟨0, 0, false, [], .slice none 0 0, rfl, rfl, rfl, rfl, rfl, rfl, rfl, rfl, by omega, by simp, by omega, Q1, Q2, World.ownsRow_nil _ _ _ _, by simp [Value.ownBlock], by simp [Value.ownBlock], rfl, M⟩ ?_
   clear M Q1 Q2
   rintro m l wl ⟨i, h, q, xs, v, rfl, e0, e2, e4, e5, e6, e7, e8, his, hxi, hhi, Q1, Q2, hown, on_k1, on_k2, hR, M⟩
   obtain ⟨pv, cv, hv⟩ := own_form hown
   have hsz := M.size
   refine w_seq (w_seq ?_)
   cases hf1 : decide (i < s.size) with
   | true =>
    have hf1p := of_decide_eq_true hf1
    refine w_reg ?_
    refine wl_mv (.tmp 8) (.int .i64 ((i : Nat) : Int)) (fun _ => rfl) e8 rfl ?_
    refine wl_mv (.tmp 0) (.string s) (fun _ => rfl) e0 rfl ?_
    refine wl_val (.int .i64 ((s.size : Nat) : Int)) (len_s _ _ s (by exact rfl) _ _ _ _ _ _) rfl ?_
    refine wl_b .lss 3 (.tmp 19) (.tmp 21) (.int .i64 ((i : Nat) : Int)) (.int .i64 ((s.size : Nat) : Int)) (.bool true) (ltN hf1 _ _ _) ?_
    refine w_nil (xn_then (w_condT rfl (w_skip (xn_then (w_seq (w_block (w_block (w_seq ?_))))))))
    cases hf2 : (bt s (i) == 46) with
    | true =>
     refine w_reg ?_
     refine wl_mv (.tmp 0) (.string s) (fun _ => rfl) e0 rfl ?_
     refine wl_mv (.tmp 8) (.int .i64 ((i : Nat) : Int)) (fun _ => rfl) e8 rfl ?_
     refine wl_bin (fun x y => Instr.index 9 x y) (.tmp 26) (.tmp 27) (.string s) (.int .i64 ((i : Nat) : Int)) (.int .u8 (bt s (i))) (fun _ => rfl) rfl rfl (idx_b (by omega) _) rfl ?_
     refine wl_b .eql 5 (.tmp 28) (.const (.int .u8 (46))) (.int .u8 (bt s (i))) (.int .u8 (46)) (.bool true) (eq5r hf2 _ _ _) ?_
     refine wl_m (.tmp 29) (.bool true) ?_
     refine w_nil (xn_then (w_condT rfl (w_reg ?_)))
     refine wl_m (.const (.bool true)) (.bool true) ?_
     refine w_nil (xn_blk (xn_blk (xn_then (w_reg ?_))))
     refine wl_mv (.tmp 8) (.int .i64 ((i : Nat) : Int)) (fun _ => rfl) e8 rfl ?_
     refine wl_b .add 3 (.tmp 23) (.const (.int .i64 (1))) (.int .i64 ((i : Nat) : Int)) (.int .i64 (1)) (.int .i64 ((i + 1 : Nat) : Int)) (add1r (k := i) (by omega) _ _ _) ?_
     refine wl_m (.tmp 24) (.int .i64 ((i + 1 : Nat) : Int)) ?_
     refine w_nil ?_
     exact xn_loop (s.size - (i + 1)) (by omega) ⟨i + 1, h, true, xs, v, rfl, e0, e2, e4, e5, e6, rfl, rfl, by omega, by first | omega | (simp; omega), by omega, Q1, Q2, hown, on_k1, on_k2, by rw [← hR, pr_in (of_decide_eq_true hf1)]; simp [hf2], M⟩
    | false =>
     refine w_reg ?_
     refine wl_mv (.tmp 0) (.string s) (fun _ => rfl) e0 rfl ?_
     refine wl_mv (.tmp 8) (.int .i64 ((i : Nat) : Int)) (fun _ => rfl) e8 rfl ?_
     refine wl_bin (fun x y => Instr.index 9 x y) (.tmp 26) (.tmp 27) (.string s) (.int .i64 ((i : Nat) : Int)) (.int .u8 (bt s (i))) (fun _ => rfl) rfl rfl (idx_b (by omega) _) rfl ?_
     refine wl_b .eql 5 (.tmp 28) (.const (.int .u8 (46))) (.int .u8 (bt s (i))) (.int .u8 (46)) (.bool false) (eq5r hf2 _ _ _) ?_
     refine wl_m (.tmp 29) (.bool false) ?_
     refine w_nil (xn_then (w_condF rfl (w_seq ?_)))
     cases hf3 : dgt (bt s (i)) with
     | true =>
      refine w_reg ?_
      refine wl_mv (.tmp 0) (.string s) (fun _ => rfl) e0 rfl ?_
      refine wl_mv (.tmp 8) (.int .i64 ((i : Nat) : Int)) (fun _ => rfl) e8 rfl ?_
      refine wl_bin (fun x y => Instr.index 9 x y) (.tmp 31) (.tmp 32) (.string s) (.int .i64 ((i : Nat) : Int)) (.int .u8 (bt s (i))) (fun _ => rfl) rfl rfl (idx_b (by omega) _) rfl ?_
      refine wl_call 49 [(.tmp 33)] _ [.int .u8 (bt s (i))] (.bool true) rfl rfl (fun _ _ => by kernel_rfl) (digit_c hf3 _) rfl ?_
      intro w21 hq
      replace hown := own_mo hown hq
      replace Q1 := Q1.mo hq
      replace Q2 := Q2.mo hq
      replace M := M.trans hq
      clear hq
      refine wl_m (.tmp 34) (.bool true) ?_
      refine w_nil (xn_then (w_condT rfl (w_seq (w_seq (w_reg ?_)))))
      refine wl_mv (.tmp 7) (.bool q) (fun _ => rfl) e7 rfl ?_
      refine w_nil (xn_then ?_)
      cases q with
      | true =>
       refine w_condT rfl (w_reg ?_)
       refine wl_mv (.tmp 6) (.int .i64 ((h : Nat) : Int)) (fun _ => rfl) e6 rfl ?_
       refine wl_b .add 3 (.tmp 36) (.const (.int .i64 (1))) (.int .i64 ((h : Nat) : Int)) (.int .i64 (1)) (.int .i64 ((h + 1 : Nat) : Int)) (add1r (k := h) (by omega) _ _ _) ?_
       refine wl_m (.tmp 37) (.int .i64 ((h + 1 : Nat) : Int)) ?_
       refine w_nil (xn_then (w_seq ?_))
       cases hf4 : decide (0 < xs.length) with
       | true =>
        have hf4p := of_decide_eq_true hf4
        refine w_reg ?_
        refine wl_mv (.tmp 5) (v) (fun _ => rfl) e5 rfl ?_
        refine wl_val (.int .i64 ((xs.length : Nat) : Int)) (lens_r2 _ _ pv _ cv (Eq.trans (b := v) (by exact rfl) hv) _ _ _ _ _ _) rfl ?_
        refine wl_b .gtr 3 (.tmp 39) (.const (.int .i64 (0))) (.int .i64 ((xs.length : Nat) : Int)) (.int .i64 (0)) (.bool true) (gtN hf4 _ _ _) ?_
        refine wl_m (.tmp 40) (.bool true) ?_
        refine wl_skip rfl (wl_skip rfl (wl_skip rfl (wl_skip rfl ?_)))
        refine wl_pick (.tmp 41) (.const (.bool true)) (.tmp 45) true (.bool true) (fun _ => rfl) rfl rfl rfl ?_
        refine w_nil (xn_then (w_condT rfl (w_reg ?_)))
        refine wl_mv (.tmp 5) (v) (fun _ => rfl) e5 rfl ?_
        refine wl_mv (.tmp 0) (.string s) (fun _ => rfl) e0 rfl ?_
        refine wl_mv (.tmp 8) (.int .i64 ((i : Nat) : Int)) (fun _ => rfl) e8 rfl ?_
        refine wl_bin (fun x y => Instr.index 9 x y) (.tmp 48) (.tmp 49) (.string s) (.int .i64 ((i : Nat) : Int)) (.int .u8 (bt s (i))) (fun _ => rfl) rfl rfl (idx_b (by omega) _) rfl ?_
        refine wl_bsl (.tmp 50) (bt s (i)) rfl rfl rfl ?_
        intro k21 w22 hk hz2 hq Q21
        have ne_k1_k21 : k1 ≠ k21 := by have := Q1.lt; omega
        have ne_k2_k21 : k2 ≠ k21 := by have := Q2.lt; omega
        have on_k21 : v.ownBlock ≠ some k21 := fun e => by have := (hown.lt _ e).2; omega
        have N_k21 : w.heap.size ≤ k21 := by have := M.size; omega
        replace hown := own_mo hown hq
        replace Q1 := Q1.mo hq
        replace Q2 := Q2.mo hq
        replace M := M.trans hq
        clear hk hz2 hq
        refine wl_app2 (.tmp 47) (.tmp 51) w.heap.size v xs.length (xs.map (Value.int .u8)) k21 (bt s (i)) rfl rfl rfl hown Q21 (by omega) (by have := M.size; omega) rfl ?_
        intro v' w23 hown2 hW hat
        have hne_k1 : v'.ownBlock ≠ some k1 := by rcases hat with h | h <;> rw [h]; exact on_k1; intro e; cases e; have := Q1.lt; omega
        have hne_k2 : v'.ownBlock ≠ some k2 := by rcases hat with h | h <;> rw [h]; exact on_k2; intro e; cases e; have := Q2.lt; omega
        replace M := hW.mo M (fun j e => (hown.lt _ e).1)
        replace Q1 := hW.at Q1 on_k1
        replace Q2 := hW.at Q2 on_k2
        replace Q21 := hW.at Q21 on_k21
        clear hown hW hat
        have hown := hown2
        clear hown2
        replace on_k1 := hne_k1
        replace on_k2 := hne_k2
        refine wl_m (.tmp 52) (v') ?_
        refine w_nil (xn_blk (xn_blk (xn_then (w_reg ?_))))
        refine wl_mv (.tmp 8) (.int .i64 ((i : Nat) : Int)) (fun _ => rfl) e8 rfl ?_
        refine wl_b .add 3 (.tmp 23) (.const (.int .i64 (1))) (.int .i64 ((i : Nat) : Int)) (.int .i64 (1)) (.int .i64 ((i + 1 : Nat) : Int)) (add1r (k := i) (by omega) _ _ _) ?_
        refine wl_m (.tmp 24) (.int .i64 ((i + 1 : Nat) : Int)) ?_
        refine w_nil ?_
        exact xn_loop (s.size - (i + 1)) (by omega) ⟨i + 1, h + 1, true, (xs ++ [bt s i]), v', rfl, e0, e2, e4, rfl, rfl, e7, rfl, by omega, by first | omega | (simp; omega), by omega, Q1, Q2, by rw [List.length_append, List.map_append]; exact hown, on_k1, on_k2, by rw [← hR, pr_in (of_decide_eq_true hf1)]; simp [hf2, hf3, hf4p], M⟩
       | false =>
        have hf4p := of_decide_eq_false hf4
        cases hf5 : (bt s (i) == 48) with
        | true =>
         refine w_reg ?_
         refine wl_mv (.tmp 5) (v) (fun _ => rfl) e5 rfl ?_
         refine wl_val (.int .i64 ((xs.length : Nat) : Int)) (lens_r2 _ _ pv _ cv (Eq.trans (b := v) (by exact rfl) hv) _ _ _ _ _ _) rfl ?_
         refine wl_b .gtr 3 (.tmp 39) (.const (.int .i64 (0))) (.int .i64 ((xs.length : Nat) : Int)) (.int .i64 (0)) (.bool false) (gtN hf4 _ _ _) ?_
         refine wl_m (.tmp 40) (.bool false) ?_
         refine wl_mv (.tmp 0) (.string s) (fun _ => rfl) e0 rfl ?_
         refine wl_mv (.tmp 8) (.int .i64 ((i : Nat) : Int)) (fun _ => rfl) e8 rfl ?_
         refine wl_bin (fun x y => Instr.index 9 x y) (.tmp 42) (.tmp 43) (.string s) (.int .i64 ((i : Nat) : Int)) (.int .u8 (bt s (i))) (fun _ => rfl) rfl rfl (idx_b (by omega) _) rfl ?_
         refine wl_b .neq 5 (.tmp 44) (.const (.int .u8 (48))) (.int .u8 (bt s (i))) (.int .u8 (48)) (.bool false) (ne5r hf5 _ _ _) ?_
         refine wl_pick (.tmp 41) (.const (.bool true)) (.tmp 45) false (.bool false) (fun _ => rfl) rfl rfl rfl ?_
         refine w_nil (xn_then (w_condF rfl (w_skip (xn_blk (xn_blk (xn_then (w_reg ?_)))))))
         refine wl_mv (.tmp 8) (.int .i64 ((i : Nat) : Int)) (fun _ => rfl) e8 rfl ?_
         refine wl_b .add 3 (.tmp 23) (.const (.int .i64 (1))) (.int .i64 ((i : Nat) : Int)) (.int .i64 (1)) (.int .i64 ((i + 1 : Nat) : Int)) (add1r (k := i) (by omega) _ _ _) ?_
         refine wl_m (.tmp 24) (.int .i64 ((i + 1 : Nat) : Int)) ?_
         refine w_nil ?_
         exact xn_loop (s.size - (i + 1)) (by omega) ⟨i + 1, h + 1, true, xs, v, rfl, e0, e2, e4, e5, rfl, e7, rfl, by omega, by first | omega | (simp; omega), by omega, Q1, Q2, hown, on_k1, on_k2, by rw [← hR, pr_in (of_decide_eq_true hf1)]; simp [hf2, hf3, hf4p, hf5], M⟩
        | false =>
         refine w_reg ?_
         refine wl_mv (.tmp 5) (v) (fun _ => rfl) e5 rfl ?_
         refine wl_val (.int .i64 ((xs.length : Nat) : Int)) (lens_r2 _ _ pv _ cv (Eq.trans (b := v) (by exact rfl) hv) _ _ _ _ _ _) rfl ?_
         refine wl_b .gtr 3 (.tmp 39) (.const (.int .i64 (0))) (.int .i64 ((xs.length : Nat) : Int)) (.int .i64 (0)) (.bool false) (gtN hf4 _ _ _) ?_
         refine wl_m (.tmp 40) (.bool false) ?_
         refine wl_mv (.tmp 0) (.string s) (fun _ => rfl) e0 rfl ?_
         refine wl_mv (.tmp 8) (.int .i64 ((i : Nat) : Int)) (fun _ => rfl) e8 rfl ?_
         refine wl_bin (fun x y => Instr.index 9 x y) (.tmp 42) (.tmp 43) (.string s) (.int .i64 ((i : Nat) : Int)) (.int .u8 (bt s (i))) (fun _ => rfl) rfl rfl (idx_b (by omega) _) rfl ?_
         refine wl_b .neq 5 (.tmp 44) (.const (.int .u8 (48))) (.int .u8 (bt s (i))) (.int .u8 (48)) (.bool true) (ne5r hf5 _ _ _) ?_
         refine wl_pick (.tmp 41) (.const (.bool true)) (.tmp 45) false (.bool true) (fun _ => rfl) rfl rfl rfl ?_
         refine w_nil (xn_then (w_condT rfl (w_reg ?_)))
         refine wl_mv (.tmp 5) (v) (fun _ => rfl) e5 rfl ?_
         refine wl_mv (.tmp 0) (.string s) (fun _ => rfl) e0 rfl ?_
         refine wl_mv (.tmp 8) (.int .i64 ((i : Nat) : Int)) (fun _ => rfl) e8 rfl ?_
         refine wl_bin (fun x y => Instr.index 9 x y) (.tmp 48) (.tmp 49) (.string s) (.int .i64 ((i : Nat) : Int)) (.int .u8 (bt s (i))) (fun _ => rfl) rfl rfl (idx_b (by omega) _) rfl ?_
         refine wl_bsl (.tmp 50) (bt s (i)) rfl rfl rfl ?_
         intro k21 w22 hk hz2 hq Q21
         have ne_k1_k21 : k1 ≠ k21 := by have := Q1.lt; omega
         have ne_k2_k21 : k2 ≠ k21 := by have := Q2.lt; omega
         have on_k21 : v.ownBlock ≠ some k21 := fun e => by have := (hown.lt _ e).2; omega
         have N_k21 : w.heap.size ≤ k21 := by have := M.size; omega
         replace hown := own_mo hown hq
         replace Q1 := Q1.mo hq
         replace Q2 := Q2.mo hq
         replace M := M.trans hq
         clear hk hz2 hq
         refine wl_app2 (.tmp 47) (.tmp 51) w.heap.size v xs.length (xs.map (Value.int .u8)) k21 (bt s (i)) rfl rfl rfl hown Q21 (by omega) (by have := M.size; omega) rfl ?_
         intro v' w23 hown2 hW hat
         have hne_k1 : v'.ownBlock ≠ some k1 := by rcases hat with h | h <;> rw [h]; exact on_k1; intro e; cases e; have := Q1.lt; omega
         have hne_k2 : v'.ownBlock ≠ some k2 := by rcases hat with h | h <;> rw [h]; exact on_k2; intro e; cases e; have := Q2.lt; omega
         replace M := hW.mo M (fun j e => (hown.lt _ e).1)
         replace Q1 := hW.at Q1 on_k1
         replace Q2 := hW.at Q2 on_k2
         replace Q21 := hW.at Q21 on_k21
         clear hown hW hat
         have hown := hown2
         clear hown2
         replace on_k1 := hne_k1
         replace on_k2 := hne_k2
         refine wl_m (.tmp 52) (v') ?_
         refine w_nil (xn_blk (xn_blk (xn_then (w_reg ?_))))
         refine wl_mv (.tmp 8) (.int .i64 ((i : Nat) : Int)) (fun _ => rfl) e8 rfl ?_
         refine wl_b .add 3 (.tmp 23) (.const (.int .i64 (1))) (.int .i64 ((i : Nat) : Int)) (.int .i64 (1)) (.int .i64 ((i + 1 : Nat) : Int)) (add1r (k := i) (by omega) _ _ _) ?_
         refine wl_m (.tmp 24) (.int .i64 ((i + 1 : Nat) : Int)) ?_
         refine w_nil ?_
         exact xn_loop (s.size - (i + 1)) (by omega) ⟨i + 1, h + 1, true, (xs ++ [bt s i]), v', rfl, e0, e2, e4, rfl, rfl, e7, rfl, by omega, by first | omega | (simp; omega), by omega, Q1, Q2, by rw [List.length_append, List.map_append]; exact hown, on_k1, on_k2, by rw [← hR, pr_in (of_decide_eq_true hf1)]; simp [hf2, hf3, hf4p, hf5], M⟩
      | false =>
       refine w_condF rfl (w_skip (xn_then (w_seq ?_)))
       cases hf4 : decide (0 < xs.length) with
       | true =>
        have hf4p := of_decide_eq_true hf4
        refine w_reg ?_
        refine wl_mv (.tmp 5) (v) (fun _ => rfl) e5 rfl ?_
        refine wl_val (.int .i64 ((xs.length : Nat) : Int)) (lens_r2 _ _ pv _ cv (Eq.trans (b := v) (by exact rfl) hv) _ _ _ _ _ _) rfl ?_
        refine wl_b .gtr 3 (.tmp 39) (.const (.int .i64 (0))) (.int .i64 ((xs.length : Nat) : Int)) (.int .i64 (0)) (.bool true) (gtN hf4 _ _ _) ?_
        refine wl_m (.tmp 40) (.bool true) ?_
        refine wl_skip rfl (wl_skip rfl (wl_skip rfl (wl_skip rfl ?_)))
        refine wl_pick (.tmp 41) (.const (.bool true)) (.tmp 45) true (.bool true) (fun _ => rfl) rfl rfl rfl ?_
        refine w_nil (xn_then (w_condT rfl (w_reg ?_)))
        refine wl_mv (.tmp 5) (v) (fun _ => rfl) e5 rfl ?_
        refine wl_mv (.tmp 0) (.string s) (fun _ => rfl) e0 rfl ?_
        refine wl_mv (.tmp 8) (.int .i64 ((i : Nat) : Int)) (fun _ => rfl) e8 rfl ?_
        refine wl_bin (fun x y => Instr.index 9 x y) (.tmp 48) (.tmp 49) (.string s) (.int .i64 ((i : Nat) : Int)) (.int .u8 (bt s (i))) (fun _ => rfl) rfl rfl (idx_b (by omega) _) rfl ?_
        refine wl_bsl (.tmp 50) (bt s (i)) rfl rfl rfl ?_
        intro k21 w22 hk hz2 hq Q21
        have ne_k1_k21 : k1 ≠ k21 := by have := Q1.lt; omega
        have ne_k2_k21 : k2 ≠ k21 := by have := Q2.lt; omega
        have on_k21 : v.ownBlock ≠ some k21 := fun e => by have := (hown.lt _ e).2; omega
        have N_k21 : w.heap.size ≤ k21 := by have := M.size; omega
        replace hown := own_mo hown hq
        replace Q1 := Q1.mo hq
        replace Q2 := Q2.mo hq
        replace M := M.trans hq
        clear hk hz2 hq
        refine wl_app2 (.tmp 47) (.tmp 51) w.heap.size v xs.length (xs.map (Value.int .u8)) k21 (bt s (i)) rfl rfl rfl hown Q21 (by omega) (by have := M.size; omega) rfl ?_
        intro v' w23 hown2 hW hat
        have hne_k1 : v'.ownBlock ≠ some k1 := by rcases hat with h | h <;> rw [h]; exact on_k1; intro e; cases e; have := Q1.lt; omega
        have hne_k2 : v'.ownBlock ≠ some k2 := by rcases hat with h | h <;> rw [h]; exact on_k2; intro e; cases e; have := Q2.lt; omega
        replace M := hW.mo M (fun j e => (hown.lt _ e).1)
        replace Q1 := hW.at Q1 on_k1
        replace Q2 := hW.at Q2 on_k2
        replace Q21 := hW.at Q21 on_k21
        clear hown hW hat
        have hown := hown2
        clear hown2
        replace on_k1 := hne_k1
        replace on_k2 := hne_k2
        refine wl_m (.tmp 52) (v') ?_
        refine w_nil (xn_blk (xn_blk (xn_then (w_reg ?_))))
        refine wl_mv (.tmp 8) (.int .i64 ((i : Nat) : Int)) (fun _ => rfl) e8 rfl ?_
        refine wl_b .add 3 (.tmp 23) (.const (.int .i64 (1))) (.int .i64 ((i : Nat) : Int)) (.int .i64 (1)) (.int .i64 ((i + 1 : Nat) : Int)) (add1r (k := i) (by omega) _ _ _) ?_
        refine wl_m (.tmp 24) (.int .i64 ((i + 1 : Nat) : Int)) ?_
        refine w_nil ?_
        exact xn_loop (s.size - (i + 1)) (by omega) ⟨i + 1, h, false, (xs ++ [bt s i]), v', rfl, e0, e2, e4, rfl, e6, e7, rfl, by omega, by first | omega | (simp; omega), by omega, Q1, Q2, by rw [List.length_append, List.map_append]; exact hown, on_k1, on_k2, by rw [← hR, pr_in (of_decide_eq_true hf1)]; simp [hf2, hf3, hf4p], M⟩
       | false =>
        have hf4p := of_decide_eq_false hf4
        cases hf5 : (bt s (i) == 48) with
        | true =>
         refine w_reg ?_
         refine wl_mv (.tmp 5) (v) (fun _ => rfl) e5 rfl ?_
         refine wl_val (.int .i64 ((xs.length : Nat) : Int)) (lens_r2 _ _ pv _ cv (Eq.trans (b := v) (by exact rfl) hv) _ _ _ _ _ _) rfl ?_
         refine wl_b .gtr 3 (.tmp 39) (.const (.int .i64 (0))) (.int .i64 ((xs.length : Nat) : Int)) (.int .i64 (0)) (.bool false) (gtN hf4 _ _ _) ?_
         refine wl_m (.tmp 40) (.bool false) ?_
         refine wl_mv (.tmp 0) (.string s) (fun _ => rfl) e0 rfl ?_
         refine wl_mv (.tmp 8) (.int .i64 ((i : Nat) : Int)) (fun _ => rfl) e8 rfl ?_
         refine wl_bin (fun x y => Instr.index 9 x y) (.tmp 42) (.tmp 43) (.string s) (.int .i64 ((i : Nat) : Int)) (.int .u8 (bt s (i))) (fun _ => rfl) rfl rfl (idx_b (by omega) _) rfl ?_
         refine wl_b .neq 5 (.tmp 44) (.const (.int .u8 (48))) (.int .u8 (bt s (i))) (.int .u8 (48)) (.bool false) (ne5r hf5 _ _ _) ?_
         refine wl_pick (.tmp 41) (.const (.bool true)) (.tmp 45) false (.bool false) (fun _ => rfl) rfl rfl rfl ?_
         refine w_nil (xn_then (w_condF rfl (w_skip (xn_blk (xn_blk (xn_then (w_reg ?_)))))))
         refine wl_mv (.tmp 8) (.int .i64 ((i : Nat) : Int)) (fun _ => rfl) e8 rfl ?_
         refine wl_b .add 3 (.tmp 23) (.const (.int .i64 (1))) (.int .i64 ((i : Nat) : Int)) (.int .i64 (1)) (.int .i64 ((i + 1 : Nat) : Int)) (add1r (k := i) (by omega) _ _ _) ?_
         refine wl_m (.tmp 24) (.int .i64 ((i + 1 : Nat) : Int)) ?_
         refine w_nil ?_
         exact xn_loop (s.size - (i + 1)) (by omega) ⟨i + 1, h, false, xs, v, rfl, e0, e2, e4, e5, e6, e7, rfl, by omega, by first | omega | (simp; omega), by omega, Q1, Q2, hown, on_k1, on_k2, by rw [← hR, pr_in (of_decide_eq_true hf1)]; simp [hf2, hf3, hf4p, hf5], M⟩
        | false =>
         refine w_reg ?_
         refine wl_mv (.tmp 5) (v) (fun _ => rfl) e5 rfl ?_
         refine wl_val (.int .i64 ((xs.length : Nat) : Int)) (lens_r2 _ _ pv _ cv (Eq.trans (b := v) (by exact rfl) hv) _ _ _ _ _ _) rfl ?_
         refine wl_b .gtr 3 (.tmp 39) (.const (.int .i64 (0))) (.int .i64 ((xs.length : Nat) : Int)) (.int .i64 (0)) (.bool false) (gtN hf4 _ _ _) ?_
         refine wl_m (.tmp 40) (.bool false) ?_
         refine wl_mv (.tmp 0) (.string s) (fun _ => rfl) e0 rfl ?_
         refine wl_mv (.tmp 8) (.int .i64 ((i : Nat) : Int)) (fun _ => rfl) e8 rfl ?_
         refine wl_bin (fun x y => Instr.index 9 x y) (.tmp 42) (.tmp 43) (.string s) (.int .i64 ((i : Nat) : Int)) (.int .u8 (bt s (i))) (fun _ => rfl) rfl rfl (idx_b (by omega) _) rfl ?_
         refine wl_b .neq 5 (.tmp 44) (.const (.int .u8 (48))) (.int .u8 (bt s (i))) (.int .u8 (48)) (.bool true) (ne5r hf5 _ _ _) ?_
         refine wl_pick (.tmp 41) (.const (.bool true)) (.tmp 45) false (.bool true) (fun _ => rfl) rfl rfl rfl ?_
         refine w_nil (xn_then (w_condT rfl (w_reg ?_)))
         refine wl_mv (.tmp 5) (v) (fun _ => rfl) e5 rfl ?_
         refine wl_mv (.tmp 0) (.string s) (fun _ => rfl) e0 rfl ?_
         refine wl_mv (.tmp 8) (.int .i64 ((i : Nat) : Int)) (fun _ => rfl) e8 rfl ?_
         refine wl_bin (fun x y => Instr.index 9 x y) (.tmp 48) (.tmp 49) (.string s) (.int .i64 ((i : Nat) : Int)) (.int .u8 (bt s (i))) (fun _ => rfl) rfl rfl (idx_b (by omega) _) rfl ?_
         refine wl_bsl (.tmp 50) (bt s (i)) rfl rfl rfl ?_
         intro k21 w22 hk hz2 hq Q21
         have ne_k1_k21 : k1 ≠ k21 := by have := Q1.lt; omega
         have ne_k2_k21 : k2 ≠ k21 := by have := Q2.lt; omega
         have on_k21 : v.ownBlock ≠ some k21 := fun e => by have := (hown.lt _ e).2; omega
         have N_k21 : w.heap.size ≤ k21 := by have := M.size; omega
         replace hown := own_mo hown hq
         replace Q1 := Q1.mo hq
         replace Q2 := Q2.mo hq
         replace M := M.trans hq
         clear hk hz2 hq
         refine wl_app2 (.tmp 47) (.tmp 51) w.heap.size v xs.length (xs.map (Value.int .u8)) k21 (bt s (i)) rfl rfl rfl hown Q21 (by omega) (by have := M.size; omega) rfl ?_
         intro v' w23 hown2 hW hat
         have hne_k1 : v'.ownBlock ≠ some k1 := by rcases hat with h | h <;> rw [h]; exact on_k1; intro e; cases e; have := Q1.lt; omega
         have hne_k2 : v'.ownBlock ≠ some k2 := by rcases hat with h | h <;> rw [h]; exact on_k2; intro e; cases e; have := Q2.lt; omega
         replace M := hW.mo M (fun j e => (hown.lt _ e).1)
         replace Q1 := hW.at Q1 on_k1
         replace Q2 := hW.at Q2 on_k2
         replace Q21 := hW.at Q21 on_k21
         clear hown hW hat
         have hown := hown2
         clear hown2
         replace on_k1 := hne_k1
         replace on_k2 := hne_k2
         refine wl_m (.tmp 52) (v') ?_
         refine w_nil (xn_blk (xn_blk (xn_then (w_reg ?_))))
         refine wl_mv (.tmp 8) (.int .i64 ((i : Nat) : Int)) (fun _ => rfl) e8 rfl ?_
         refine wl_b .add 3 (.tmp 23) (.const (.int .i64 (1))) (.int .i64 ((i : Nat) : Int)) (.int .i64 (1)) (.int .i64 ((i + 1 : Nat) : Int)) (add1r (k := i) (by omega) _ _ _) ?_
         refine wl_m (.tmp 24) (.int .i64 ((i + 1 : Nat) : Int)) ?_
         refine w_nil ?_
         exact xn_loop (s.size - (i + 1)) (by omega) ⟨i + 1, h, false, (xs ++ [bt s i]), v', rfl, e0, e2, e4, rfl, e6, e7, rfl, by omega, by first | omega | (simp; omega), by omega, Q1, Q2, by rw [List.length_append, List.map_append]; exact hown, on_k1, on_k2, by rw [← hR, pr_in (of_decide_eq_true hf1)]; simp [hf2, hf3, hf4p, hf5], M⟩
     | false =>
      refine w_reg ?_
      refine wl_mv (.tmp 0) (.string s) (fun _ => rfl) e0 rfl ?_
      refine wl_mv (.tmp 8) (.int .i64 ((i : Nat) : Int)) (fun _ => rfl) e8 rfl ?_
      refine wl_bin (fun x y => Instr.index 9 x y) (.tmp 31) (.tmp 32) (.string s) (.int .i64 ((i : Nat) : Int)) (.int .u8 (bt s (i))) (fun _ => rfl) rfl rfl (idx_b (by omega) _) rfl ?_
      refine wl_call 49 [(.tmp 33)] _ [.int .u8 (bt s (i))] (.bool false) rfl rfl (fun _ _ => by kernel_rfl) (digit_c hf3 _) rfl ?_
      intro w21 hq
      replace hown := own_mo hown hq
      replace Q1 := Q1.mo hq
      replace Q2 := Q2.mo hq
      replace M := M.trans hq
      clear hq
      refine wl_m (.tmp 34) (.bool false) ?_
      refine w_nil (xn_then (w_condF rfl (w_skip (xn_blk (xn_blk (xn_then (w_reg ?_)))))))
      refine wl_mv (.tmp 8) (.int .i64 ((i : Nat) : Int)) (fun _ => rfl) e8 rfl ?_
      refine wl_b .add 3 (.tmp 23) (.const (.int .i64 (1))) (.int .i64 ((i : Nat) : Int)) (.int .i64 (1)) (.int .i64 ((i + 1 : Nat) : Int)) (add1r (k := i) (by omega) _ _ _) ?_
      refine wl_m (.tmp 24) (.int .i64 ((i + 1 : Nat) : Int)) ?_
      refine w_nil ?_
      exact xn_loop (s.size - (i + 1)) (by omega) ⟨i + 1, h, q, xs, v, rfl, e0, e2, e4, e5, e6, e7, rfl, by omega, by first | omega | (simp; omega), by omega, Q1, Q2, hown, on_k1, on_k2, by rw [← hR, pr_in (of_decide_eq_true hf1)]; simp [hf2, hf3], M⟩
   | false =>
    have hf1p := of_decide_eq_false hf1
    refine w_reg ?_
    refine wl_mv (.tmp 8) (.int .i64 ((i : Nat) : Int)) (fun _ => rfl) e8 rfl ?_
    refine wl_mv (.tmp 0) (.string s) (fun _ => rfl) e0 rfl ?_
    refine wl_val (.int .i64 ((s.size : Nat) : Int)) (len_s _ _ s (by exact rfl) _ _ _ _ _ _) rfl ?_
    refine wl_b .lss 3 (.tmp 19) (.tmp 21) (.int .i64 ((i : Nat) : Int)) (.int .i64 ((s.size : Nat) : Int)) (.bool false) (ltN hf1 _ _ _) ?_
    refine w_nil (xn_then (w_condF rfl (w_exit (xx_then (xx_then (xx_blk ?_))))))
    refine xn_cut ⟨pv, cv, h, xs, e2, e4, e5.trans hv, e6, fun hx => ?_, Q1, Q2, by rw [← hR, pr_out (of_decide_eq_false hf1)], M⟩
    obtain ⟨g, cap, rfl, hgN, hglt⟩ := hown.form (List.length_pos_iff.2 hx)
    cases hv
    exact ⟨g, rfl, fun e => on_k1 (by rw [e]; rfl), fun e => on_k2 (by rw [e]; rfl), own_at hown, hgN⟩
 | false =>
  refine w_reg ?_
  refine wl_m (.tmp 0) (.string s) ?_
  refine wl_call 50 [(.tmp 11)] _ [.string s] (.bool false) rfl rfl (fun _ _ => by kernel_rfl) (whole_c hs hf0 _) rfl ?_
  intro w2 hq
  replace Q1 := Q1.mo hq
  replace M := M.trans hq
  clear hq
  refine wl_un (fun v => Op.unary .not v) (.tmp 12) (.bool false) (.bool true) (fun _ => rfl) rfl (by kernel_rfl) rfl ?_
  refine w_nil (xn_then (w_condT rfl (w_seq (w_reg ?_))))
  refine wl_build 33 [] [] (.agg #[.bool false, .int .u64 0, .int .u64 0, .int .u64 0, .int .u64 0, .int .i64 0]) rfl rfl (by kernel_rfl) rfl ?_
  refine wl_st 33 (.tmp 2) (.tmp 14) k1 0 #[.bool false, .int .u64 0, .int .u64 0, .int .u64 0, .int .u64 0, .int .i64 0] _ [.bool false, .int .u64 0, .int .u64 0, .int .u64 0, .int .u64 0, .int .i64 0] Q1 rfl rfl rfl rfl rfl sz26 rfl rfl rfl ?_
  intro w3 hS Qn
  replace Q1 := Qn
  clear Qn
  replace M := hS.mo _ N_k1 M
  clear hS
  refine wl_m (.const (.int .i64 (30))) (.int .i64 (30)) ?_
  refine w_nil (xn_then (w_ret (xr_then ?_)))
  have hfin : rps s N E = .tuple #[.agg #[.bool false, .int .u64 0, .int .u64 0, .int .u64 0, .int .u64 0, .int .i64 0], .int .i64 (30)] := by unfold rps; rw [if_pos hf0]; try rfl
  exact w_ret2 _ _ (.agg #[.bool false, .int .u64 0, .int .u64 0, .int .u64 0, .int .u64 0, .int .i64 0]) (.int .i64 (30)) rfl ⟨k1, rfl, (run_row Q1 33 0 6 _ rfl Tryd.underlying33 rfl sz26)⟩ rfl ⟨by rw [hfin], M⟩
theorem rpa_no (s : ByteArray) (w : World) (hs : s.size ≤ maxLen) (hw : whl s = false) : Calls Tryd.prog 33 #[.string s] w fun e w' => e = .returned (er 30) ∧ Mo w w' := by
 refine w_enter 75 Tryd.func33 Tryd.ntmps33 rfl rfl ?_
 have M : Mo w w := Mo.refl _
 refine w_seq (w_reg ?_)
 refine wl_alloc 33 #[.bool false, .int .u64 0, .int .u64 0, .int .u64 0, .int .u64 0, .int .i64 0] rfl (fun _ => by kernel_rfl) rfl ?_
 intro k1 w1 hk hz hq Q1
 have N_k1 : w.heap.size ≤ k1 := by have := M.size; omega
 replace M := M.trans hq
 clear hk hz hq
 refine wl_m (.const (.int .i64 (0))) (.int .i64 (0)) ?_
 refine w_nil (xn_then (w_seq (w_seq (w_reg ?_))))
 refine wl_m (.tmp 0) (.string s) ?_
 refine wl_call 50 [(.tmp 11)] _ [.string s] (.bool false) rfl rfl (fun _ _ => by kernel_rfl) (whole_c hs hw _) rfl ?_
 intro w2 hq
 replace Q1 := Q1.mo hq
 replace M := M.trans hq
 clear hq
 refine wl_un (fun v => Op.unary .not v) (.tmp 12) (.bool false) (.bool true) (fun _ => rfl) rfl (by kernel_rfl) rfl ?_
 refine w_nil (xn_then (w_condT rfl (w_seq (w_reg ?_))))
 refine wl_build 33 [] [] (.agg #[.bool false, .int .u64 0, .int .u64 0, .int .u64 0, .int .u64 0, .int .i64 0]) rfl rfl (by kernel_rfl) rfl ?_
 refine wl_st 33 (.tmp 2) (.tmp 14) k1 0 #[.bool false, .int .u64 0, .int .u64 0, .int .u64 0, .int .u64 0, .int .i64 0] _ [.bool false, .int .u64 0, .int .u64 0, .int .u64 0, .int .u64 0, .int .i64 0] Q1 rfl rfl rfl rfl rfl sz26 rfl rfl rfl ?_
 intro w3 hS Qn
 replace Q1 := Qn
 clear Qn
 replace M := hS.mo _ N_k1 M
 clear hS
 refine wl_m (.const (.int .i64 (30))) (.int .i64 (30)) ?_
 refine w_nil (xn_then (w_ret (xr_then ?_)))
 exact w_ret2 _ _ (.agg #[.bool false, .int .u64 0, .int .u64 0, .int .u64 0, .int .u64 0, .int .i64 0]) (.int .i64 (30)) rfl ⟨k1, rfl, (run_row Q1 33 0 6 _ rfl Tryd.underlying33 rfl sz26)⟩ rfl ⟨rfl, M⟩
end Go.Proofs.YthgknegocfhdbaaDoor

/-
 What the document's reading makes of a decimal text's parts.
-/
namespace Go.Proofs.YthgknegocfhdbaaDoor
open Go.RowKit
/-! The document's digits. -/
def prl : List UInt8 → List Int → Nat → Bool → List Int × Nat
 | [], a, h, _ => (a, h)
 | x :: r, a, h, q => if (x.toNat : Int) == 46 then prl r a h true
  else if isD x then prl r (if decide (0 < a.length) || !((x.toNat : Int) == 48) then a ++ [(x.toNat : Int)] else a) (if q then h + 1 else h) q
  else prl r a h q
theorem prl_cons (x : UInt8) (r : List UInt8) (a : List Int) (h : Nat) (q : Bool) : prl (x :: r) a h q = if (x.toNat : Int) == 46 then prl r a h true
  else if isD x then prl r (if decide (0 < a.length) || !((x.toNat : Int) == 48) then a ++ [(x.toNat : Int)] else a) (if q then h + 1 else h) q
  else prl r a h q := by rw [prl]
theorem pr_prl (s : ByteArray) (i : Nat) (a : List Int) (h : Nat) (q : Bool) : pr s i a h q = prl ((by8 s).drop i) a h q := by
 by_cases hi : i < s.size
 ·have hl : i < (by8 s).length := by rw [by8_len]; exact hi
  rw [pr_in hi, List.drop_eq_getElem_cons hl]
  have e : bt s i = (((by8 s)[i]).toNat : Int) := by rw [bt_tn, List.getElem?_eq_getElem hl]; rfl
  rw [e]
  unfold prl
  have ed : dgt (((by8 s)[i]).toNat : Int) = isD (by8 s)[i] := rfl
  rw [ed, pr_prl s (i + 1), pr_prl s (i + 1), pr_prl s (i + 1)]
 ·rw [pr_out hi, List.drop_eq_nil_of_le (by rw [by8_len]; omega)]
  rfl
termination_by s.size - i
def apz (a : List UInt8) (D : List UInt8) : List UInt8 := if a = [] then dw0 D else a ++ D
theorem prl_run : ∀ (D r : List UInt8) (a : List UInt8) (h : Nat) (q : Bool), (∀ x ∈ D, isD x = true) → prl (D ++ r) (nl a) h q = prl r (nl (apz a D)) (if q then h + D.length else h) q
 | [], r, a, h, q, _ => by
  have : apz a [] = a := by unfold apz; split <;> simp_all
  rw [this]
  cases q <;> simp
 | x :: D, r, a, h, q, hd => by
  have hx := hd x (by simp)
  have h46 : ((x.toNat : Int) == 46) = false := beq_eq_false_iff_ne.2 (by have := isD_b hx; omega)
  have e48 : ((x.toNat : Int) == 48) = (x == 48) := by
   rw [Bool.eq_iff_iff, beq_iff_eq, beq_iff_eq, ← UInt8.toNat_inj]
   have : (48 : UInt8).toNat = 48 := rfl
   omega
  rw [List.cons_append, prl_cons, h46, if_neg (by simp), hx, if_pos rfl, e48]
  have ha : (if (decide (0 < (nl a).length) || !(x == 48)) = true then nl a ++ [(x.toNat : Int)] else nl a) = nl (if decide (a = []) && (x == 48) then a else a ++ [x]) := by
   cases a <;> cases (x == 48) <;> simp
  rw [ha, prl_run D r _ _ q (fun y hy => hd y (by simp [hy]))]
  have e2 : apz (if decide (a = []) && (x == 48) then a else a ++ [x]) D = apz a (x :: D) := by
   unfold apz
   cases a with
   | nil =>
    cases hz : (x == 48) with
    | true => simp [dw0, hz]
    | false => simp [dw0, hz]
   | cons y t => simp
  rw [e2]
  have e3 : (if q = true then (if q = true then h + 1 else h) + D.length else (if q = true then h + 1 else h)) = if q = true then h + (x :: D).length else h := by
   cases q with
   | false => rfl
   | true => simp; omega
  rw [e3]
theorem apz_apz (A B : List UInt8) : apz (apz [] A) B = dw0 (A ++ B) := by
 show (if A.dropWhile (· == 48) = [] then B.dropWhile (· == 48) else A.dropWhile (· == 48) ++ B) = (A ++ B).dropWhile (· == 48)
 rw [List.dropWhile_append]
 cases h : A.dropWhile (· == 48) <;> simp
theorem prs_df {s : ByteArray} {b : Bool} {A B : List UInt8} (h : Df (by8 s) b A B) : prs s = (nl (dw0 (A ++ B)), B.length) := by
 unfold prs
 rw [pr_prl, List.drop_zero, h.eq]
 have h0 : ∀ t, prl (sg8 b ++ t) [] 0 false = prl t (nl []) 0 false := fun t => by
  cases b with
  | false => rfl
  | true => rfl
 rw [h0, prl_run A _ [] 0 false h.ad]
 by_cases hB : B = []
 ·rw [if_pos hB, hB]
  unfold prl
  rw [List.append_nil]
  rfl
 ·rw [if_neg hB]
  unfold prl
  rw [if_pos (by rfl)]
  have := prl_run B [] (apz [] A) 0 true h.bd
  rw [List.append_nil] at this
  simp only [Bool.false_eq_true, if_false]
  rw [this, apz_apz]
  unfold prl
  simp
theorem sgn_df {s : ByteArray} {b : Bool} {A B : List UInt8} (h : Df (by8 s) b A B) : (bt s 0 == 45) = b := by
 rw [bt_tn, h.eq]
 cases b with
 | true => rfl
 | false =>
  cases hA : A with
  | nil => exact absurd hA h.ne
  | cons a r =>
   have h1 := isD_b (h.ad a (by rw [hA]; simp))
   refine beq_eq_false_iff_ne.2 fun e => ?_
   have e2 : (a.toNat : Int) = 45 := e
   omega
end Go.Proofs.YthgknegocfhdbaaDoor

/-
 Parse: the program's and the document's say the same.
-/
namespace Go.Proofs.YthgknegocfhdbaaDoor
open Go.RowKit
theorem rlp_n {z : List UInt8} (hc : Cn z) (hl : z.length ≤ maxLen) (w : World) : Calls Tryd.prog 51 #[tx z] w fun e w' => e = .returned (.tuple #[nv (if pv z < MM then pv z else 0), .int .i64 (if pv z < MM then 0 else 7)]) ∧ Mo w w' := by
 haveI := Classical.propDecidable (isT ⟨z.toArray⟩)
 refine (rparse_n ⟨z.toArray⟩ w (by rw [tx_size]; exact hl)).mono fun e w' ⟨he, hm⟩ => ⟨?_, hm⟩
 rw [he, if_pos (cn_isT hc)]
 unfold resP
 rw [pvk_z8]
 by_cases h : pv z < MM
 ·rw [if_pos h, if_pos h, if_pos h]
 ·rw [if_neg h, if_neg h, if_neg h]; rfl
theorem dw0_woz {L : List UInt8} (h : dw0 L ≠ []) : woz L = dw0 L := by unfold woz; rw [if_neg h]
theorem parse14_df {s : ByteArray} {b : Bool} {A B : List UInt8} (h : Df (by8 s) b A B) (hsz : s.size ≤ 140737488355328) (w : World) : Calls Tryd.prog 33 #[.string s] w fun e w' => e = .returned (pva b A B) ∧ Mo w w' := by
 have hs : s.size ≤ maxLen := by unfold maxLen; omega
 have hpr := prs_df h
 have hlen := h.len
 rw [by8_len] at hlen
 have hwl := woz_len2 (L := A ++ B) (by simp [h.ne])
 simp only [List.length_append] at hwl
 have hw : whl s = true := by rw [whl_dec]; exact dec_df h
 refine (rpa_n s (if nof A B < MM then nof A B else 0) (if nof A B < MM then 0 else 7) w hs hsz (fun hne w => ?_)).mono fun e w' ⟨he, hm⟩ => ⟨?_, hm⟩
 ·rw [hpr] at hne ⊢
  have hne' : dw0 (A ++ B) ≠ [] := fun e => hne (by simp only [e]; rfl)
  rw [show (nl (dw0 (A ++ B)), B.length).1 = nl (dw0 (A ++ B)) from rfl, nl_str, ← dw0_woz hne']
  exact rlp_n (cn_woz h.dg) (by unfold maxLen; omega) w
 ·rw [he]
  congr 1
  unfold rps pva pe
  rw [if_neg (by rw [hw]; simp), hpr, sgn_df h]
  by_cases h18 : 18 < B.length
  ·rw [if_pos h18, if_pos h18, if_neg (by decide)]
  ·rw [if_neg h18, if_neg h18]
   by_cases hz : dw0 (A ++ B) = []
   ·have hn : nof A B = 0 := by
     unfold nof woz
     rw [if_pos hz]; rfl
    rw [if_pos (by rw [hz]; rfl), hn, if_pos (by decide)] <;> rfl
   ·rw [if_neg (by simp only [List.length_map]; exact fun e => hz (List.eq_nil_of_length_eq_zero e))]
    by_cases hM : nof A B < MM
    ·simp only [if_pos hM]
     rfl
    ·simp only [if_neg hM]
     rfl
theorem parse14_no {s : ByteArray} (h : isDec s = false) (hs : s.size ≤ maxLen) (w : World) : Calls Tryd.prog 33 #[.string s] w fun e w' => e = .returned (er 30) ∧ Mo w w' :=
 rpa_no s w hs (by rw [whl_dec]; exact h)
theorem parse_both (s : ByteArray) (hsz : s.size ≤ 140737488355328) : ∃ (b : Bool) (N E : Int) (k : Nat), 0 ≤ N ∧ N < MM ∧ k ≤ 18 ∧ (E = 0 → ck b N (k : Int) = 0) ∧ (E == 30) = !isDec s ∧
  (∀ w, Calls Tryd.prog 48 #[.string s] w fun e w' => e = .returned (.tuple #[dc b N (k : Int), .int .i64 E]) ∧ Mo w w') ∧ (∀ w, Calls Tryd.prog 33 #[.string s] w fun e w' => e = .returned (.tuple #[dc b N (k : Int), .int .i64 E]) ∧ Mo w w') := by
 have hs : s.size ≤ maxLen := by unfold maxLen; omega
 cases hd : isDec s with
 | false => exact ⟨false, 0, 30, 0, by omega, by decide, by omega, fun e => (by cases e), rfl, fun w => parse13_no hd hs w, fun w => parse14_no hd hs w⟩
 | true =>
  obtain ⟨b, A, B, h⟩ := df_dec hd
  have h3 := fun w => parse13_df h hs w
  have h4 := fun w => parse14_df h hsz w
  unfold pva at h3 h4
  by_cases hE : pe A B = 0
  ·simp only [if_pos hE] at h3 h4
   unfold pe at hE
   by_cases h18 : 18 < B.length
   ·rw [if_pos h18] at hE; cases hE
   ·rw [if_neg h18] at hE
    by_cases hM : nof A B < MM
    ·exact ⟨b, nof A B, 0, B.length, h.n0, hM, by omega, fun _ => h.ck (by omega), rfl, h3, h4⟩
    ·rw [if_neg hM] at hE; cases hE
  ·simp only [if_neg hE] at h3 h4
   have h30 : (pe A B == 30) = false := by
    unfold pe
    split
    ·rfl
    ·split <;> rfl
   exact ⟨false, 0, pe A B, 0, by omega, by decide, by omega, fun e => absurd e hE, h30, h3, h4⟩
end Go.Proofs.YthgknegocfhdbaaDoor

