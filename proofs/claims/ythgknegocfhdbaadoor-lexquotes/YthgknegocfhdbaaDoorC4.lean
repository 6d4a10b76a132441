/-
  A part of the proof.
-/
import Derived.Test.YthgknegocfhdbaaDoorC3
import Derived.Test.YthgknegocfhdbaaDoorC2
import Derived.Maps.AppendAt
import Derived.Deep.AppendLies
import Derived.Laws.BytesString
/-
 lex.reach: of which kind a word is, and where it ends.
-/
namespace Go.Proofs.YthgknegocfhdbaaDoor
open Go.RowKit
theorem mid_run (ρ : Operand → Value) (x y z : Operand) (s : ByteArray) (a b : Nat) (hx : ρ x = .string s) (hy : ρ y = .int .i64 (a : Int)) (hz : ρ z = .int .i64 (b : Int)) (h1 : a ≤ b) (h2 : b ≤ s.size) (dst : Option Tmp) (type : TypeId) (pos : String) (after : Array Edge) (guard : Option (Nat × Bool)) (w : World) :
  (execOp ρ { dst, op := .slice 9 x (some y) (some z) none, type, pos, after, guard }).run Tryd.prog w = .ok (.value (.string (s.extract a b))) w := by
 have h3 : (a : Int) ≤ (b : Int) := by omega
 have h4 : (b : Int) ≤ (s.size : Int) := by omega
 simp [go_sem, hx, hy, hz, h3, h4]
theorem lo2_run (ρ : Operand → Value) (x y : Operand) (s : ByteArray) (a : Nat) (hx : ρ x = .string s) (hy : ρ y = .int .i64 (a : Int)) (h1 : a ≤ s.size) (dst : Option Tmp) (type : TypeId) (pos : String) (after : Array Edge) (guard : Option (Nat × Bool)) (w : World) :
  (execOp ρ { dst, op := .slice 9 x (some y) none none, type, pos, after, guard }).run Tryd.prog w = .ok (.value (.string (s.extract a s.size))) w := by
 have h3 : (a : Int) ≤ (s.size : Int) := by omega
 have h0 : (0 : Int) ≤ (a : Int) := by omega
 simp [go_sem, hx, hy, h3, h0]
theorem ltr_in {s : ByteArray} {k : Nat} (h : (ltr (bt s k) || dgt (bt s k)) = true) : k < s.size := by
 by_cases hk : k < s.size
 ·exact hk
 ·rw [bt_out hk] at h; cases h
def nme (s : ByteArray) (k : Nat) : Nat := if h : (ltr (bt s k) || dgt (bt s k)) = true then nme s (k + 1) else k
termination_by s.size - k
decreasing_by have := ltr_in h; omega
theorem nme_on {s : ByteArray} {k : Nat} (h : (ltr (bt s k) || dgt (bt s k)) = true) : nme s k = nme s (k + 1) := by rw [nme, dif_pos h]
theorem nme_end {s : ByteArray} {k : Nat} (h : (ltr (bt s k) || dgt (bt s k)) = false) : nme s k = k := by rw [nme, dif_neg (by rw [h]; simp)]
def qte (s : ByteArray) (a k : Nat) : Nat := if h : k + 1 < s.size then (if (bt s (k + 1) == 92) = true then qte s a (k + 2) else if (bt s (k + 1) == 34) = true then k + 2 else qte s a (k + 1)) else a
termination_by s.size - k
decreasing_by
 ·omega
 ·omega
def rch (s : ByteArray) (k : Nat) : Nat × Nat :=
 if ltr (bt s k) = true then (1, nme s (k + 1)) else if dgt (bt s k) = true then (2, k + pfx (s.extract k s.size))
 else if (bt s k == 34) = true then (3, qte s k k) else (4, if k + 2 ≤ s.size ∧ symb (s.extract k (k + 2)) = true then k + 2 else k + 1)
def RP (s : ByteArray) (k : Nat) : Nat → Nat → Prop
 | 0, e => e < s.size ∧ rch s k = (1, nme s (e + 1))
 | 1, _ => rch s k = (2, k + pfx (s.extract k s.size))
 | 2, e => e ≤ s.size ∧ rch s k = (3, qte s k e)
 | 3, _ => rch s k = (4, if k + 2 ≤ s.size ∧ symb (s.extract k (k + 2)) = true then k + 2 else k + 1)
 | _, _ => False
def RI (s : ByteArray) (k : Nat) (w : World) (i m : Nat) (l : List (Nat × Value)) (w1 : World) : Prop :=
 ∃ e : Nat, look l 0 = .string s ∧ look l 1 = .int .i64 (k : Int) ∧ look l 6 = .int .i64 (e : Int) ∧ m = s.size + 5 - e ∧ RP s k i e ∧ Mo w w1
theorem sym_c {s : ByteArray} {r : Bool} (h : symb s = r) (w : World) : Calls Tryd.prog 18 #[.string s] w fun e w' => e = .returned (.bool r) ∧ Mo w w' := h ▸ sym_n s w
theorem leN {a b : Nat} {r : Bool} (h : decide (a ≤ b) = r) (x y : Operand) (w : World) : (do eqGuard .leq 3 x y (.int .i64 (a : Int)) (.int .i64 (b : Int)); binOp .leq 3 (.int .i64 (a : Int)) (.int .i64 (b : Int))).run Tryd.prog w = .ok (.bool r) w := by
 subst h; simp [go_sem]
theorem reach_n (s : ByteArray) (k : Nat) (w : World) (hs : s.size ≤ maxLen - 8) (hk : k < s.size) : Calls Tryd.prog 27 #[.string s, .int .i64 ((k : Nat) : Int)] w fun e w' => e = .returned (.tuple #[.int .i64 ((rch s k).1 : Nat), .int .i64 ((rch s k).2 : Nat)]) ∧ Mo w w' := by
 unfold maxLen at hs
 refine w_enter 79 Tryd.func27 Tryd.ntmps27 rfl rfl ?_
 have M : Mo w w := Mo.refl _
 refine w_seq (w_reg ?_)
 refine wl_m (.const (.int .i64 (0))) (.int .i64 (0)) ?_
 refine wl_m (.const (.int .i64 (0))) (.int .i64 (0)) ?_
 refine w_nil (xn_then ?_)
 refine w_scope1 (RI s k w) ?_ ?_ ?_
 ·rintro i m l w1 ⟨e, _, _, _, _, hp, _⟩
  match i, hp with
  | 0, _ => rfl
  | 1, _ => rfl
  | 2, _ => rfl
  | 3, _ => rfl
 ·skip
  refine w_seq (w_reg ?_)
  refine wl_m (.tmp 1) (.int .i64 ((k : Nat) : Int)) ?_
  refine wl_m (.tmp 9) (.int .i64 ((k : Nat) : Int)) ?_
  refine w_nil (xn_then (w_seq (w_seq (w_reg ?_))))
  refine wl_m (.tmp 0) (.string s) ?_
  refine wl_m (.tmp 1) (.int .i64 ((k : Nat) : Int)) ?_
  refine wl_bin (fun x y => Instr.index 9 x y) (.tmp 10) (.tmp 11) (.string s) (.int .i64 ((k : Nat) : Int)) (.int .u8 (bt s (k))) (fun _ => rfl) rfl rfl (idx_b (k := k) (by omega) _) rfl ?_
  refine wl_m (.tmp 12) (.int .u8 (bt s (k))) ?_
  refine w_nil (xn_then (w_block (w_seq ?_)))
  cases hf0 : ltr (bt s (k)) with
  | true =>
   refine w_reg ?_
   refine wl_m (.tmp 7) (.int .u8 (bt s (k))) ?_
   refine wl_call 37 [(.tmp 14)] _ [.int .u8 (bt s (k))] (.bool true) rfl rfl (fun _ _ => by kernel_rfl) (ltr_c hf0 isLetter_n _) rfl ?_
   intro w1 hq
   replace M := M.trans hq
   clear hq
   refine wl_m (.tmp 15) (.bool true) ?_
   refine w_nil (xn_then (w_condT rfl ?_))
   refine w_goto ?_
   refine xg_blk ?_
   refine xg_then ?_
   exact xg_jump0 _ ⟨k, rfl, rfl, rfl, rfl, ⟨hk, by unfold rch; rw [if_pos hf0]⟩, M⟩
  | false =>
   refine w_reg ?_
   refine wl_m (.tmp 7) (.int .u8 (bt s (k))) ?_
   refine wl_call 37 [(.tmp 14)] _ [.int .u8 (bt s (k))] (.bool false) rfl rfl (fun _ _ => by kernel_rfl) (ltr_c hf0 isLetter_n _) rfl ?_
   intro w1 hq
   replace M := M.trans hq
   clear hq
   refine wl_m (.tmp 15) (.bool false) ?_
   refine w_nil (xn_then (w_condF rfl (w_seq ?_)))
   cases hf1 : dgt (bt s (k)) with
   | true =>
    refine w_reg ?_
    refine wl_m (.tmp 7) (.int .u8 (bt s (k))) ?_
    refine wl_call 38 [(.tmp 17)] _ [.int .u8 (bt s (k))] (.bool true) rfl rfl (fun _ _ => by kernel_rfl) (dgt_c hf1 lisDigit_n _) rfl ?_
    intro w2 hq
    replace M := M.trans hq
    clear hq
    refine wl_m (.tmp 18) (.bool true) ?_
    refine w_nil (xn_then (w_condT rfl ?_))
    refine w_goto ?_
    refine xg_blk ?_
    refine xg_then ?_
    exact xg_jump0 _ ⟨k, rfl, rfl, rfl, rfl, (by show rch s k = _; unfold rch; rw [if_neg (by rw [hf0]; simp), if_pos hf1]), M⟩
   | false =>
    refine w_reg ?_
    refine wl_m (.tmp 7) (.int .u8 (bt s (k))) ?_
    refine wl_call 38 [(.tmp 17)] _ [.int .u8 (bt s (k))] (.bool false) rfl rfl (fun _ _ => by kernel_rfl) (dgt_c hf1 lisDigit_n _) rfl ?_
    intro w2 hq
    replace M := M.trans hq
    clear hq
    refine wl_m (.tmp 18) (.bool false) ?_
    refine w_nil (xn_then (w_condF rfl (w_seq ?_)))
    cases hf2 : (bt s (k) == 34) with
    | true =>
     refine w_reg ?_
     refine wl_m (.tmp 7) (.int .u8 (bt s (k))) ?_
     refine wl_b .eql 5 (.tmp 20) (.const (.int .u8 (34))) (.int .u8 (bt s (k))) (.int .u8 (34)) (.bool true) (eq5r hf2 _ _ _) ?_
     refine wl_m (.tmp 21) (.bool true) ?_
     refine w_nil (xn_then (w_condT rfl ?_))
     refine w_goto ?_
     refine xg_blk ?_
     refine xg_then ?_
     exact xg_jump0 _ ⟨k, rfl, rfl, rfl, rfl, ⟨by omega, by unfold rch; rw [if_neg (by rw [hf0]; simp), if_neg (by rw [hf1]; simp), if_pos hf2]⟩, M⟩
    | false =>
     refine w_reg ?_
     refine wl_m (.tmp 7) (.int .u8 (bt s (k))) ?_
     refine wl_b .eql 5 (.tmp 20) (.const (.int .u8 (34))) (.int .u8 (bt s (k))) (.int .u8 (34)) (.bool false) (eq5r hf2 _ _ _) ?_
     refine wl_m (.tmp 21) (.bool false) ?_
     refine w_nil (xn_then (w_condF rfl (w_skip (xn_blk (xn_then (w_seq ?_))))))
     refine w_goto ?_
     refine xg_then ?_
     exact xg_jump0 _ ⟨k, rfl, rfl, rfl, rfl, (by show rch s k = _; unfold rch; rw [if_neg (by rw [hf0]; simp), if_neg (by rw [hf1]; simp), if_neg (by rw [hf2]; simp)]), M⟩
 ·clear M
  rintro i m l wl ⟨e, e0, e1, e6, hm, hp, M⟩
  subst hm
  match i, hp with
  | 0, hp =>
   obtain ⟨he, hr⟩ := hp
   refine w_seq (w_skip (xn_then (w_seq (w_reg ?_))))
   refine wl_mv (.tmp 6) (.int .i64 ((e : Nat) : Int)) (fun _ => rfl) e6 rfl ?_
   refine wl_b .add 3 (.tmp 22) (.const (.int .i64 (1))) (.int .i64 ((e : Nat) : Int)) (.int .i64 (1)) (.int .i64 ((e + 1 : Nat) : Int)) (addk (a := e) (b := 1) rfl (by omega) _ _ _) ?_
   refine wl_m (.tmp 23) (.int .i64 ((e + 1 : Nat) : Int)) ?_
   refine w_nil (xn_then (w_seq (w_seq (w_reg ?_))))
   refine wl_mv (.tmp 0) (.string s) (fun _ => rfl) e0 rfl ?_
   refine wl_m (.tmp 6) (.int .i64 ((e + 1 : Nat) : Int)) ?_
   refine wl_call 35 [(.tmp 24), (.tmp 25)] _ [.string s, .int .i64 ((e + 1 : Nat) : Int)] (.int .u8 (bt s (e + 1))) rfl rfl (fun _ _ => by kernel_rfl) (lbyteAt_n s (e + 1) _) rfl ?_
   intro w11 hq
   replace M := M.trans hq
   clear hq
   refine wl_m (.tmp 26) (.int .u8 (bt s (e + 1))) ?_
   refine w_nil (xn_then (w_seq ?_))
   cases hf0 : ltr (bt s (e + 1)) with
   | true =>
    refine w_reg ?_
    refine wl_m (.tmp 8) (.int .u8 (bt s (e + 1))) ?_
    refine wl_call 37 [(.tmp 27)] _ [.int .u8 (bt s (e + 1))] (.bool true) rfl rfl (fun _ _ => by kernel_rfl) (ltr_c hf0 isLetter_n _) rfl ?_
    intro w12 hq
    replace M := M.trans hq
    clear hq
    refine wl_m (.tmp 28) (.bool true) ?_
    refine wl_skip rfl (wl_skip rfl ?_)
    refine wl_pick (.tmp 29) (.const (.bool true)) (.tmp 31) true (.bool true) (fun _ => rfl) rfl rfl rfl ?_
    refine w_nil (xn_then (w_condT rfl ?_))
    refine w_goto ?_
    refine xg_then ?_
    exact xg_jump (s.size + 5 - (e + 1)) (by omega) ⟨e + 1, e0, e1, rfl, rfl, ⟨ltr_in (by rw [hf0]; rfl), by rw [hr, nme_on (by rw [hf0]; rfl)]⟩, M⟩
   | false =>
    cases hf1 : dgt (bt s (e + 1)) with
    | true =>
     refine w_reg ?_
     refine wl_m (.tmp 8) (.int .u8 (bt s (e + 1))) ?_
     refine wl_call 37 [(.tmp 27)] _ [.int .u8 (bt s (e + 1))] (.bool false) rfl rfl (fun _ _ => by kernel_rfl) (ltr_c hf0 isLetter_n _) rfl ?_
     intro w12 hq
     replace M := M.trans hq
     clear hq
     refine wl_m (.tmp 28) (.bool false) ?_
     refine wl_m (.tmp 8) (.int .u8 (bt s (e + 1))) ?_
     refine wl_call 38 [(.tmp 30)] _ [.int .u8 (bt s (e + 1))] (.bool true) rfl rfl (fun _ _ => by kernel_rfl) (dgt_c hf1 lisDigit_n _) rfl ?_
     intro w13 hq
     replace M := M.trans hq
     clear hq
     refine wl_pick (.tmp 29) (.const (.bool true)) (.tmp 31) false (.bool true) (fun _ => rfl) rfl rfl rfl ?_
     refine w_nil (xn_then (w_condT rfl ?_))
     refine w_goto ?_
     refine xg_then ?_
     exact xg_jump (s.size + 5 - (e + 1)) (by omega) ⟨e + 1, e0, e1, rfl, rfl, ⟨ltr_in (by rw [hf0, hf1]; rfl), by rw [hr, nme_on (by rw [hf0, hf1]; rfl)]⟩, M⟩
    | false =>
     refine w_reg ?_
     refine wl_m (.tmp 8) (.int .u8 (bt s (e + 1))) ?_
     refine wl_call 37 [(.tmp 27)] _ [.int .u8 (bt s (e + 1))] (.bool false) rfl rfl (fun _ _ => by kernel_rfl) (ltr_c hf0 isLetter_n _) rfl ?_
     intro w12 hq
     replace M := M.trans hq
     clear hq
     refine wl_m (.tmp 28) (.bool false) ?_
     refine wl_m (.tmp 8) (.int .u8 (bt s (e + 1))) ?_
     refine wl_call 38 [(.tmp 30)] _ [.int .u8 (bt s (e + 1))] (.bool false) rfl rfl (fun _ _ => by kernel_rfl) (dgt_c hf1 lisDigit_n _) rfl ?_
     intro w13 hq
     replace M := M.trans hq
     clear hq
     refine wl_pick (.tmp 29) (.const (.bool true)) (.tmp 31) false (.bool false) (fun _ => rfl) rfl rfl rfl ?_
     refine w_nil (xn_then (w_condF rfl (w_skip (xn_then (w_seq (w_seq (w_reg ?_)))))))
     refine wl_m (.tmp 6) (.int .i64 ((e + 1 : Nat) : Int)) ?_
     refine wl_m (.const (.int .i64 (1))) (.int .i64 (1)) ?_
     refine wl_m (.tmp 33) (.int .i64 ((e + 1 : Nat) : Int)) ?_
     refine w_nil (xn_then (w_ret (xr_then ?_)))
     refine xr_jumps ?_
     exact w_ret2 _ _ (.int .i64 (1)) (.int .i64 ((e + 1 : Nat) : Int)) rfl rfl rfl ⟨by rw [hr, nme_end (by rw [hf0, hf1]; rfl)] <;> rfl, M⟩
  | 1, hp =>
   replace hp : rch s k = (2, k + pfx (s.extract k s.size)) := hp
   have hpl := pfx_le (s.extract k s.size)
   rw [ByteArray.size_extract, Nat.min_self] at hpl
   refine w_seq (w_skip (xn_then (w_seq (w_seq (w_reg ?_)))))
   refine wl_mv (.tmp 1) (.int .i64 ((k : Nat) : Int)) (fun _ => rfl) e1 rfl ?_
   refine wl_mv (.tmp 0) (.string s) (fun _ => rfl) e0 rfl ?_
   refine wl_mv (.tmp 1) (.int .i64 ((k : Nat) : Int)) (fun _ => rfl) e1 rfl ?_
   refine wl_val (.string (s.extract (k) s.size)) (lo2_run _ _ _ s (k) (by exact rfl) (by exact rfl) (by omega) _ _ _ _ _ _) rfl ?_
   refine wl_call 47 [(.tmp 37)] _ [.string (s.extract (k) s.size)] (.int .i64 ((pfx (s.extract (k) s.size) : Nat) : Int)) rfl rfl (fun _ _ => by kernel_rfl) (prefix_n (s.extract (k) s.size) _ (by rw [ByteArray.size_extract, Nat.min_self]; unfold maxLen; omega)) rfl ?_
   intro w11 hq
   replace M := M.trans hq
   clear hq
   refine wl_b .add 3 (.tmp 34) (.tmp 38) (.int .i64 ((k : Nat) : Int)) (.int .i64 ((pfx (s.extract (k) s.size) : Nat) : Int)) (.int .i64 ((k + pfx (s.extract (k) s.size) : Nat) : Int)) (addk (a := k) (b := pfx (s.extract (k) s.size)) rfl (by omega) _ _ _) ?_
   refine wl_m (.const (.int .i64 (2))) (.int .i64 (2)) ?_
   refine wl_m (.tmp 39) (.int .i64 ((k + pfx (s.extract (k) s.size) : Nat) : Int)) ?_
   refine w_nil (xn_then (w_ret (xr_then ?_)))
   refine xr_jumps ?_
   exact w_ret2 _ _ (.int .i64 (2)) (.int .i64 ((k + pfx (s.extract (k) s.size) : Nat) : Int)) rfl rfl rfl ⟨by rw [hp] <;> rfl, M⟩
  | 2, hp =>
   obtain ⟨he, hr⟩ := hp
   refine w_seq (w_skip (xn_then (w_seq (w_reg ?_))))
   refine wl_mv (.tmp 6) (.int .i64 ((e : Nat) : Int)) (fun _ => rfl) e6 rfl ?_
   refine wl_b .add 3 (.tmp 40) (.const (.int .i64 (1))) (.int .i64 ((e : Nat) : Int)) (.int .i64 (1)) (.int .i64 ((e + 1 : Nat) : Int)) (addk (a := e) (b := 1) rfl (by omega) _ _ _) ?_
   refine wl_m (.tmp 41) (.int .i64 ((e + 1 : Nat) : Int)) ?_
   refine w_nil (xn_then (w_seq (w_block (w_seq ?_))))
   cases hf0 : decide (s.size ≤ e + 1) with
   | true =>
    have hf0p := of_decide_eq_true hf0
    refine w_reg ?_
    refine wl_m (.tmp 6) (.int .i64 ((e + 1 : Nat) : Int)) ?_
    refine wl_mv (.tmp 0) (.string s) (fun _ => rfl) e0 rfl ?_
    refine wl_val (.int .i64 ((s.size : Nat) : Int)) (len_s _ _ s (by exact rfl) _ _ _ _ _ _) rfl ?_
    refine wl_b .geq 3 (.tmp 43) (.tmp 45) (.int .i64 ((e + 1 : Nat) : Int)) (.int .i64 ((s.size : Nat) : Int)) (.bool true) (geN hf0 _ _ _) ?_
    refine wl_m (.tmp 46) (.bool true) ?_
    refine w_nil (xn_then (w_condT rfl (w_seq (w_reg ?_))))
    refine wl_mv (.tmp 1) (.int .i64 ((k : Nat) : Int)) (fun _ => rfl) e1 rfl ?_
    refine wl_m (.const (.int .i64 (3))) (.int .i64 (3)) ?_
    refine wl_m (.tmp 47) (.int .i64 ((k : Nat) : Int)) ?_
    refine w_nil (xn_then (w_ret (xr_blk (xr_then ?_))))
    refine xr_jumps ?_
    exact w_ret2 _ _ (.int .i64 (3)) (.int .i64 ((k : Nat) : Int)) rfl rfl rfl ⟨by rw [hr, qte, dif_neg (by omega)] <;> rfl, M⟩
   | false =>
    have hf0p := of_decide_eq_false hf0
    refine w_reg ?_
    refine wl_m (.tmp 6) (.int .i64 ((e + 1 : Nat) : Int)) ?_
    refine wl_mv (.tmp 0) (.string s) (fun _ => rfl) e0 rfl ?_
    refine wl_val (.int .i64 ((s.size : Nat) : Int)) (len_s _ _ s (by exact rfl) _ _ _ _ _ _) rfl ?_
    refine wl_b .geq 3 (.tmp 43) (.tmp 45) (.int .i64 ((e + 1 : Nat) : Int)) (.int .i64 ((s.size : Nat) : Int)) (.bool false) (geN hf0 _ _ _) ?_
    refine wl_m (.tmp 46) (.bool false) ?_
    refine w_nil (xn_then (w_condF rfl (w_seq ?_)))
    cases hf1 : (bt s (e + 1) == 92) with
    | true =>
     refine w_reg ?_
     refine wl_mv (.tmp 0) (.string s) (fun _ => rfl) e0 rfl ?_
     refine wl_m (.tmp 6) (.int .i64 ((e + 1 : Nat) : Int)) ?_
     refine wl_bin (fun x y => Instr.index 9 x y) (.tmp 49) (.tmp 50) (.string s) (.int .i64 ((e + 1 : Nat) : Int)) (.int .u8 (bt s (e + 1))) (fun _ => rfl) rfl rfl (idx_b (k := e + 1) (by omega) _) rfl ?_
     refine wl_b .eql 5 (.tmp 51) (.const (.int .u8 (92))) (.int .u8 (bt s (e + 1))) (.int .u8 (92)) (.bool true) (eq5r hf1 _ _ _) ?_
     refine wl_m (.tmp 52) (.bool true) ?_
     refine w_nil (xn_then (w_condT rfl (w_seq (w_reg ?_))))
     refine wl_m (.tmp 6) (.int .i64 ((e + 1 : Nat) : Int)) ?_
     refine wl_b .add 3 (.tmp 53) (.const (.int .i64 (1))) (.int .i64 ((e + 1 : Nat) : Int)) (.int .i64 (1)) (.int .i64 ((e + 1 + 1 : Nat) : Int)) (addk (a := e + 1) (b := 1) rfl (by omega) _ _ _) ?_
     refine wl_m (.tmp 54) (.int .i64 ((e + 1 + 1 : Nat) : Int)) ?_
     refine w_nil (xn_then ?_)
     refine w_goto ?_
     refine xg_blk ?_
     refine xg_then ?_
     exact xg_jump (s.size + 5 - (e + 1 + 1)) (by omega) ⟨e + 1 + 1, e0, e1, rfl, rfl, ⟨by omega, by rw [hr, show qte s k e = qte s k (e + 1 + 1) from (by rw [qte, dif_pos (by omega), if_pos hf1])]⟩, M⟩
    | false =>
     refine w_reg ?_
     refine wl_mv (.tmp 0) (.string s) (fun _ => rfl) e0 rfl ?_
     refine wl_m (.tmp 6) (.int .i64 ((e + 1 : Nat) : Int)) ?_
     refine wl_bin (fun x y => Instr.index 9 x y) (.tmp 49) (.tmp 50) (.string s) (.int .i64 ((e + 1 : Nat) : Int)) (.int .u8 (bt s (e + 1))) (fun _ => rfl) rfl rfl (idx_b (k := e + 1) (by omega) _) rfl ?_
     refine wl_b .eql 5 (.tmp 51) (.const (.int .u8 (92))) (.int .u8 (bt s (e + 1))) (.int .u8 (92)) (.bool false) (eq5r hf1 _ _ _) ?_
     refine wl_m (.tmp 52) (.bool false) ?_
     refine w_nil (xn_then (w_condF rfl (w_seq ?_)))
     cases hf2 : (bt s (e + 1) == 34) with
     | true =>
      refine w_reg ?_
      refine wl_mv (.tmp 0) (.string s) (fun _ => rfl) e0 rfl ?_
      refine wl_m (.tmp 6) (.int .i64 ((e + 1 : Nat) : Int)) ?_
      refine wl_bin (fun x y => Instr.index 9 x y) (.tmp 56) (.tmp 57) (.string s) (.int .i64 ((e + 1 : Nat) : Int)) (.int .u8 (bt s (e + 1))) (fun _ => rfl) rfl rfl (idx_b (k := e + 1) (by omega) _) rfl ?_
      refine wl_b .neq 5 (.tmp 58) (.const (.int .u8 (34))) (.int .u8 (bt s (e + 1))) (.int .u8 (34)) (.bool false) (ne5r hf2 _ _ _) ?_
      refine wl_m (.tmp 59) (.bool false) ?_
      refine w_nil (xn_then (w_condF rfl (w_skip (xn_blk (xn_then (w_seq (w_seq (w_reg ?_))))))))
      refine wl_m (.tmp 6) (.int .i64 ((e + 1 : Nat) : Int)) ?_
      refine wl_b .add 3 (.tmp 60) (.const (.int .i64 (1))) (.int .i64 ((e + 1 : Nat) : Int)) (.int .i64 (1)) (.int .i64 ((e + 1 + 1 : Nat) : Int)) (addk (a := e + 1) (b := 1) rfl (by omega) _ _ _) ?_
      refine wl_m (.const (.int .i64 (3))) (.int .i64 (3)) ?_
      refine wl_m (.tmp 61) (.int .i64 ((e + 1 + 1 : Nat) : Int)) ?_
      refine w_nil (xn_then (w_ret (xr_then ?_)))
      refine xr_jumps ?_
      exact w_ret2 _ _ (.int .i64 (3)) (.int .i64 ((e + 1 + 1 : Nat) : Int)) rfl rfl rfl ⟨by rw [hr, show qte s k e = e + 2 from (by rw [qte, dif_pos (by omega), if_neg (by rw [hf1]; simp), if_pos hf2])] <;> rfl, M⟩
     | false =>
      refine w_reg ?_
      refine wl_mv (.tmp 0) (.string s) (fun _ => rfl) e0 rfl ?_
      refine wl_m (.tmp 6) (.int .i64 ((e + 1 : Nat) : Int)) ?_
      refine wl_bin (fun x y => Instr.index 9 x y) (.tmp 56) (.tmp 57) (.string s) (.int .i64 ((e + 1 : Nat) : Int)) (.int .u8 (bt s (e + 1))) (fun _ => rfl) rfl rfl (idx_b (k := e + 1) (by omega) _) rfl ?_
      refine wl_b .neq 5 (.tmp 58) (.const (.int .u8 (34))) (.int .u8 (bt s (e + 1))) (.int .u8 (34)) (.bool true) (ne5r hf2 _ _ _) ?_
      refine wl_m (.tmp 59) (.bool true) ?_
      refine w_nil (xn_then (w_condT rfl ?_))
      refine w_goto ?_
      refine xg_blk ?_
      refine xg_then ?_
      exact xg_jump (s.size + 5 - (e + 1)) (by omega) ⟨e + 1, e0, e1, rfl, rfl, ⟨by omega, by rw [hr, show qte s k e = qte s k (e + 1) from (by rw [qte, dif_pos (by omega), if_neg (by rw [hf1]; simp), if_neg (by rw [hf2]; simp)])]⟩, M⟩
  | 3, hp =>
   replace hp : rch s k = (4, if k + 2 ≤ s.size ∧ symb (s.extract k (k + 2)) = true then k + 2 else k + 1) := hp
   refine w_seq (w_skip (xn_then (w_seq (w_seq ?_))))
   cases hf0 : decide (k + 2 ≤ s.size) with
   | true =>
    have hf0p := of_decide_eq_true hf0
    cases hf1 : symb (s.extract (k) (k + 2)) with
    | true =>
     refine w_reg ?_
     refine wl_mv (.tmp 1) (.int .i64 ((k : Nat) : Int)) (fun _ => rfl) e1 rfl ?_
     refine wl_b .add 3 (.tmp 62) (.const (.int .i64 (2))) (.int .i64 ((k : Nat) : Int)) (.int .i64 (2)) (.int .i64 ((k + 2 : Nat) : Int)) (addk (a := k) (b := 2) rfl (by omega) _ _ _) ?_
     refine wl_mv (.tmp 0) (.string s) (fun _ => rfl) e0 rfl ?_
     refine wl_val (.int .i64 ((s.size : Nat) : Int)) (len_s _ _ s (by exact rfl) _ _ _ _ _ _) rfl ?_
     refine wl_b .leq 3 (.tmp 63) (.tmp 65) (.int .i64 ((k + 2 : Nat) : Int)) (.int .i64 ((s.size : Nat) : Int)) (.bool true) (leN hf0 _ _ _) ?_
     refine wl_m (.tmp 66) (.bool true) ?_
     refine wl_mv (.tmp 0) (.string s) (fun _ => rfl) e0 rfl ?_
     refine wl_mv (.tmp 1) (.int .i64 ((k : Nat) : Int)) (fun _ => rfl) e1 rfl ?_
     refine wl_mv (.tmp 1) (.int .i64 ((k : Nat) : Int)) (fun _ => rfl) e1 rfl ?_
     refine wl_b .add 3 (.tmp 70) (.const (.int .i64 (2))) (.int .i64 ((k : Nat) : Int)) (.int .i64 (2)) (.int .i64 ((k + 2 : Nat) : Int)) (addk (a := k) (b := 2) rfl (by omega) _ _ _) ?_
     refine wl_val (.string (s.extract (k) (k + 2))) (mid_run _ _ _ _ s (k) (k + 2) (by exact rfl) (by exact rfl) (by exact rfl) (by omega) (by omega) _ _ _ _ _ _) rfl ?_
     refine wl_call 18 [(.tmp 72)] _ [.string (s.extract (k) (k + 2))] (.bool true) rfl rfl (fun _ _ => by kernel_rfl) (sym_c hf1 _) rfl ?_
     intro w11 hq
     replace M := M.trans hq
     clear hq
     refine wl_pick (.tmp 67) (.tmp 73) (.const (.bool false)) true (.bool true) (fun _ => rfl) rfl rfl rfl ?_
     refine w_nil (xn_then (w_condT rfl (w_seq (w_reg ?_))))
     refine wl_mv (.tmp 1) (.int .i64 ((k : Nat) : Int)) (fun _ => rfl) e1 rfl ?_
     refine wl_b .add 3 (.tmp 75) (.const (.int .i64 (2))) (.int .i64 ((k : Nat) : Int)) (.int .i64 (2)) (.int .i64 ((k + 2 : Nat) : Int)) (addk (a := k) (b := 2) rfl (by omega) _ _ _) ?_
     refine wl_m (.const (.int .i64 (4))) (.int .i64 (4)) ?_
     refine wl_m (.tmp 76) (.int .i64 ((k + 2 : Nat) : Int)) ?_
     refine w_nil (xn_then (w_ret (xr_then ?_)))
     refine xr_jumps ?_
     exact w_ret2 _ _ (.int .i64 (4)) (.int .i64 ((k + 2 : Nat) : Int)) rfl rfl rfl ⟨by rw [hp, if_pos ⟨hf0p, hf1⟩] <;> rfl, M⟩
    | false =>
     refine w_reg ?_
     refine wl_mv (.tmp 1) (.int .i64 ((k : Nat) : Int)) (fun _ => rfl) e1 rfl ?_
     refine wl_b .add 3 (.tmp 62) (.const (.int .i64 (2))) (.int .i64 ((k : Nat) : Int)) (.int .i64 (2)) (.int .i64 ((k + 2 : Nat) : Int)) (addk (a := k) (b := 2) rfl (by omega) _ _ _) ?_
     refine wl_mv (.tmp 0) (.string s) (fun _ => rfl) e0 rfl ?_
     refine wl_val (.int .i64 ((s.size : Nat) : Int)) (len_s _ _ s (by exact rfl) _ _ _ _ _ _) rfl ?_
     refine wl_b .leq 3 (.tmp 63) (.tmp 65) (.int .i64 ((k + 2 : Nat) : Int)) (.int .i64 ((s.size : Nat) : Int)) (.bool true) (leN hf0 _ _ _) ?_
     refine wl_m (.tmp 66) (.bool true) ?_
     refine wl_mv (.tmp 0) (.string s) (fun _ => rfl) e0 rfl ?_
     refine wl_mv (.tmp 1) (.int .i64 ((k : Nat) : Int)) (fun _ => rfl) e1 rfl ?_
     refine wl_mv (.tmp 1) (.int .i64 ((k : Nat) : Int)) (fun _ => rfl) e1 rfl ?_
     refine wl_b .add 3 (.tmp 70) (.const (.int .i64 (2))) (.int .i64 ((k : Nat) : Int)) (.int .i64 (2)) (.int .i64 ((k + 2 : Nat) : Int)) (addk (a := k) (b := 2) rfl (by omega) _ _ _) ?_
     refine wl_val (.string (s.extract (k) (k + 2))) (mid_run _ _ _ _ s (k) (k + 2) (by exact rfl) (by exact rfl) (by exact rfl) (by omega) (by omega) _ _ _ _ _ _) rfl ?_
     refine wl_call 18 [(.tmp 72)] _ [.string (s.extract (k) (k + 2))] (.bool false) rfl rfl (fun _ _ => by kernel_rfl) (sym_c hf1 _) rfl ?_
     intro w11 hq
     replace M := M.trans hq
     clear hq
     refine wl_pick (.tmp 67) (.tmp 73) (.const (.bool false)) true (.bool false) (fun _ => rfl) rfl rfl rfl ?_
     refine w_nil (xn_then (w_condF rfl (w_skip (xn_then (w_seq (w_reg ?_))))))
     refine wl_mv (.tmp 1) (.int .i64 ((k : Nat) : Int)) (fun _ => rfl) e1 rfl ?_
     refine wl_b .add 3 (.tmp 77) (.const (.int .i64 (1))) (.int .i64 ((k : Nat) : Int)) (.int .i64 (1)) (.int .i64 ((k + 1 : Nat) : Int)) (addk (a := k) (b := 1) rfl (by omega) _ _ _) ?_
     refine wl_m (.const (.int .i64 (4))) (.int .i64 (4)) ?_
     refine wl_m (.tmp 78) (.int .i64 ((k + 1 : Nat) : Int)) ?_
     refine w_nil (xn_then (w_ret ?_))
     refine xr_jumps ?_
     exact w_ret2 _ _ (.int .i64 (4)) (.int .i64 ((k + 1 : Nat) : Int)) rfl rfl rfl ⟨by rw [hp, if_neg (fun e => by rw [hf1] at e; cases e.2)] <;> rfl, M⟩
   | false =>
    have hf0p := of_decide_eq_false hf0
    refine w_reg ?_
    refine wl_mv (.tmp 1) (.int .i64 ((k : Nat) : Int)) (fun _ => rfl) e1 rfl ?_
    refine wl_b .add 3 (.tmp 62) (.const (.int .i64 (2))) (.int .i64 ((k : Nat) : Int)) (.int .i64 (2)) (.int .i64 ((k + 2 : Nat) : Int)) (addk (a := k) (b := 2) rfl (by omega) _ _ _) ?_
    refine wl_mv (.tmp 0) (.string s) (fun _ => rfl) e0 rfl ?_
    refine wl_val (.int .i64 ((s.size : Nat) : Int)) (len_s _ _ s (by exact rfl) _ _ _ _ _ _) rfl ?_
    refine wl_b .leq 3 (.tmp 63) (.tmp 65) (.int .i64 ((k + 2 : Nat) : Int)) (.int .i64 ((s.size : Nat) : Int)) (.bool false) (leN hf0 _ _ _) ?_
    refine wl_m (.tmp 66) (.bool false) ?_
    refine wl_skip rfl (wl_skip rfl (wl_skip rfl (wl_skip rfl (wl_skip rfl (wl_skip rfl ?_)))))
    refine wl_pick (.tmp 67) (.tmp 73) (.const (.bool false)) false (.bool false) (fun _ => rfl) rfl rfl rfl ?_
    refine w_nil (xn_then (w_condF rfl (w_skip (xn_then (w_seq (w_reg ?_))))))
    refine wl_mv (.tmp 1) (.int .i64 ((k : Nat) : Int)) (fun _ => rfl) e1 rfl ?_
    refine wl_b .add 3 (.tmp 77) (.const (.int .i64 (1))) (.int .i64 ((k : Nat) : Int)) (.int .i64 (1)) (.int .i64 ((k + 1 : Nat) : Int)) (addk (a := k) (b := 1) rfl (by omega) _ _ _) ?_
    refine wl_m (.const (.int .i64 (4))) (.int .i64 (4)) ?_
    refine wl_m (.tmp 78) (.int .i64 ((k + 1 : Nat) : Int)) ?_
    refine w_nil (xn_then (w_ret ?_))
    refine xr_jumps ?_
    exact w_ret2 _ _ (.int .i64 (4)) (.int .i64 ((k + 1 : Nat) : Int)) rfl rfl rfl ⟨by rw [hp, if_neg (fun e => hf0p e.1)] <;> rfl, M⟩
end Go.Proofs.YthgknegocfhdbaaDoor
/-
 The document's name and closes: where a name and a text in quotes end.
-/
namespace Go.Proofs.YthgknegocfhdbaaDoor
open Go.RowKit
def cl (s : ByteArray) (k : Nat) : Option Nat := if h : k < s.size then (if (bt s k == 92) = true then cl s (k + 2) else if (bt s k == 34) = true then some (k + 1) else cl s (k + 1)) else none
termination_by s.size - k
decreasing_by
 ·omega
 ·omega
theorem cl_end {s : ByteArray} {k : Nat} (h : ¬ k < s.size) : cl s k = none := by rw [cl, dif_neg h]
theorem cl_e {s : ByteArray} {k : Nat} (h : k < s.size) (h2 : (bt s k == 92) = true) : cl s k = cl s (k + 2) := by rw [cl, dif_pos h, if_pos h2]
theorem cl_q {s : ByteArray} {k : Nat} (h : k < s.size) (h2 : (bt s k == 92) = false) (h3 : (bt s k == 34) = true) : cl s k = some (k + 1) := by rw [cl, dif_pos h, if_neg (by rw [h2]; simp), if_pos h3]
theorem cl_o {s : ByteArray} {k : Nat} (h : k < s.size) (h2 : (bt s k == 92) = false) (h3 : (bt s k == 34) = false) : cl s k = cl s (k + 1) := by rw [cl, dif_pos h, if_neg (by rw [h2]; simp), if_neg (by rw [h3]; simp)]
theorem qte_cl (s : ByteArray) (a : Nat) : ∀ (d k : Nat), s.size - k ≤ d → qte s a k = (cl s (k + 1)).getD a := by
 intro d
 induction d with
 | zero => intro k hd; rw [qte, dif_neg (by omega), cl_end (by omega)]; rfl
 | succ d ih =>
  intro k hd
  by_cases h : k + 1 < s.size
  ·rw [qte, dif_pos h]
   cases h2 : (bt s (k + 1) == 92) with
   | true => rw [if_pos rfl, cl_e h h2]; exact ih (k + 2) (by omega)
   | false =>
    rw [if_neg (by simp)]
    cases h3 : (bt s (k + 1) == 34) with
    | true => rw [if_pos rfl, cl_q h h2 h3]; rfl
    | false => rw [if_neg (by simp), cl_o h h2 h3]; exact ih (k + 1) (by omega)
  ·rw [qte, dif_neg h, cl_end h]; rfl
end Go.Proofs.YthgknegocfhdbaaDoor
namespace Go.Proofs
open Go.Shelf
def Tryd.laysB_ren : Go.Shelf.Ren := ⟨fun | 156 => 45 | 167 => 40 | 165 => 55 | 166 => 44 | 169 => 41 | 240 => 54 | 241 => 68 | 276 => 67 | 277 => 75 | n => n, fun | 31 => 60 | 9 => 9 | 3 => 3 | 4 => 4 | 0 => 0 | 20 => 20 | 72 => 64 | 76 => 72 | 70 => 61 | 37 => 62 | 75 => 68 | 127 => 79 | 164 => 89 | 5 => 5 | 80 => 70 | n => n, fun | n => n⟩
theorem Tryd.lays167 : Go.Proofs.Lays.n167 Tryd.prog Tryd.laysB_ren := {
  mixed := by kernel_rfl
  f167 := Tryd.func40.trans (congrArg some (by kernel_rfl))
  f240 := Tryd.func54.trans (congrArg some (by kernel_rfl))
  f276 := Tryd.func67.trans (congrArg some (by kernel_rfl))
  t0 := Tryd.underlying0
  a0 := Tryd.isAgg0
  z0 := Tryd.sizeOf0
  v0 := Tryd.zeroValue0
  t4 := Tryd.underlying4
  a4 := Tryd.isAgg4
  z4 := Tryd.sizeOf4
  v4 := Tryd.zeroValue4
  t5 := Tryd.underlying5
  a5 := Tryd.isAgg5
  z5 := Tryd.sizeOf5
  v5 := Tryd.zeroValue5
  t9 := Tryd.underlying9
  a9 := Tryd.isAgg9
  z9 := Tryd.sizeOf9
  v9 := Tryd.zeroValue9
  t20 := Tryd.underlying20
  a20 := Tryd.isAgg20
  z20 := Tryd.sizeOf20
  v20 := Tryd.zeroValue20
  t37 := Tryd.underlying62
  a37 := Tryd.isAgg62
  z37 := Tryd.sizeOf62
  v37 := Tryd.zeroValue62
  t70 := Tryd.underlying61
  a70 := Tryd.isAgg61
  z70 := Tryd.sizeOf61
  v70 := Tryd.zeroValue61
  t72 := Tryd.underlying64
  a72 := Tryd.isAgg64
  z72 := Tryd.sizeOf64
  v72 := Tryd.zeroValue64
  t75 := Tryd.underlying68
  a75 := Tryd.isAgg68
  z75 := Tryd.sizeOf68
  v75 := Tryd.zeroValue68
  t164 := Tryd.underlying89
  a164 := Tryd.isAgg89
  z164 := Tryd.sizeOf89
  v164 := Tryd.zeroValue89 }
theorem Tryd.lays166 : Go.Proofs.Lays.n166 Tryd.prog Tryd.laysB_ren := {
  mixed := by kernel_rfl
  f166 := Tryd.func44.trans (congrArg some (by kernel_rfl))
  f240 := Tryd.func54.trans (congrArg some (by kernel_rfl))
  f276 := Tryd.func67.trans (congrArg some (by kernel_rfl))
  t0 := Tryd.underlying0
  a0 := Tryd.isAgg0
  z0 := Tryd.sizeOf0
  v0 := Tryd.zeroValue0
  t3 := Tryd.underlying3
  a3 := Tryd.isAgg3
  z3 := Tryd.sizeOf3
  v3 := Tryd.zeroValue3
  t4 := Tryd.underlying4
  a4 := Tryd.isAgg4
  z4 := Tryd.sizeOf4
  v4 := Tryd.zeroValue4
  t9 := Tryd.underlying9
  a9 := Tryd.isAgg9
  z9 := Tryd.sizeOf9
  v9 := Tryd.zeroValue9
  t20 := Tryd.underlying20
  a20 := Tryd.isAgg20
  z20 := Tryd.sizeOf20
  v20 := Tryd.zeroValue20
  t37 := Tryd.underlying62
  a37 := Tryd.isAgg62
  z37 := Tryd.sizeOf62
  v37 := Tryd.zeroValue62
  t70 := Tryd.underlying61
  a70 := Tryd.isAgg61
  z70 := Tryd.sizeOf61
  v70 := Tryd.zeroValue61
  t72 := Tryd.underlying64
  a72 := Tryd.isAgg64
  z72 := Tryd.sizeOf64
  v72 := Tryd.zeroValue64
  t75 := Tryd.underlying68
  a75 := Tryd.isAgg68
  z75 := Tryd.sizeOf68
  v75 := Tryd.zeroValue68
  t164 := Tryd.underlying89
  a164 := Tryd.isAgg89
  z164 := Tryd.sizeOf89
  v164 := Tryd.zeroValue89 }
theorem Tryd.Builder_Extra_B : Builder.Extra Tryd.prog Tryd.laysB_ren := {
  sizeBuilder := by kernel_rfl
  liesBuilder := by kernel_rfl
  t5 := Tryd.underlying5
  a5 := Tryd.isAgg5
  z5 := Tryd.sizeOf5
  v5 := Tryd.zeroValue5
  infoByte := by kernel_rfl
  cellsByte := by kernel_rfl
  sizeByte := by kernel_rfl
  neB5 := by decide }
open Go.RowKit in theorem Tryd.Builder_WriteByte (B b : Nat) (bs : List Value) (c : Int) (w : World) (h : Lib.IsBuilder 64 5 B b bs w) (hlen : bs.length + 1 ≤ 140737488355328) (hBw : B ≤ w.heap.size) :
    Calls Tryd.prog 40 #[.pointer (some ⟨b, 0, none⟩), .int .u8 c] w fun e w' => e = .returned .nilIface ∧ (Lib.BuilderAt 64 5 B b (.pointer (some ⟨b, 0, none⟩)) (bs ++ [.int .u8 c]) w' ∧ Below B w w') := Any.Builder_WriteByte Tryd.lays167 Tryd.Builder_Extra_B B b bs c w h hlen hBw
open Go.RowKit in theorem Tryd.Builder_WriteString (B b : Nat) (bs : List Value) (s : ByteArray) (w : World) (h : Lib.IsBuilder 64 5 B b bs w) (hlen : bs.length + s.size ≤ 140737488355328) (hBw : B ≤ w.heap.size) :
    Calls Tryd.prog 44 #[.pointer (some ⟨b, 0, none⟩), .string s] w fun e w' => e = .returned (.tuple #[.int .i64 s.size, .nilIface]) ∧ (Lib.BuilderAt 64 5 B b (.pointer (some ⟨b, 0, none⟩)) (bs ++ Lib.strCells s) w' ∧ Below B w w') := Any.Builder_WriteString Tryd.lays166 Tryd.Builder_Extra_B B b bs s w h hlen hBw
end Go.Proofs
/-
 lex.Unquote.
-/
namespace Go.Proofs.YthgknegocfhdbaaDoor.V
open Go.RowKit
section
variable {P : Program} {o : Oper} {n : Nat} {l : List (Nat × Value)} {w : World} {ops : Array Oper} {rest : List Oper} {Q : Exit → Act → World → Prop}
theorem wl_callx (g : FuncId) (xs : List Operand) (ats : Array TypeId) (args : List Value) {F : Ending → World → Prop} (ho : o.op = .call { callee := .value (.func g), args := xs.toArray, argTypes := ats }) (hx : xs.map (evl n l) = args)
  (h : ∀ args w, (callFunc g args).run P w = .ok (.enter g args) w)
  (hc : Calls P g args.toArray w F) (hg : wnt n l ops o = true) (hk : ∀ v w', F v w' → ∃ u, v = .returned u ∧ WL P ops Q rest n (ext l o.dst u) w') : WL P ops Q (o :: rest) n l w := by
 have e : (execOp (evl n l) o).run P w = .ok (.enter g args.toArray) w := by
  obtain ⟨dst, op, ty, pos, after, guard⟩ := o
  simp only at ho
  subst ho hx
  have e2 := execOp_call_go (fr n l) dst g xs.toArray ats ty pos after guard
  rw [fr_eval] at e2
  rw [e2, h]
  simp
 refine ⟨l_step hg ?_⟩
 unfold Oper.wp; rw [fr_eval, e, Oper.upon_enter]
 refine hc.mono ?_
 intro e w' hF
 obtain ⟨u, rfl, hW⟩ := hk e w' hF
 show wpList _ _ _ _ _ _
 rw [fr_put]
 exact hW.out
end
section
variable {o : Oper} {n : Nat} {l : List (Nat × Value)} {w : World} {ops : Array Oper} {rest : List Oper} {Q : Exit → Act → World → Prop}
theorem wl_new64 (ho : o.op = .alloc 64) (hg : wnt n l ops o = true) (hk : ∀ k w', w.heap.size = k → Mw w w' → (∀ B, B ≤ k → Lib.IsBuilder 64 5 B k [] w') → WL Tryd.prog ops Q rest n (ext l o.dst (pt k 0)) w') : WL Tryd.prog ops Q (o :: rest) n l w :=
 ⟨l_step hg (o_val (pt w.heap.size 0) (w' := w.alloc (.cells #[.pointer none, .slice none 0 0] 64)) (by unfold execOp; rw [ho]; kernel_rfl) (hk _ _ rfl ((Mw.refl _).alloc _ _) (fun B hB => Or.inl ⟨hB, .slice none 0 0, by show (w.heap.push _)[w.heap.size]? = _; rw [Array.getElem?_push, if_pos rfl], ⟨rfl, .inl ⟨rfl, rfl⟩⟩, by simp [Value.ownBlock]⟩)).out)⟩
end
theorem IB.mw {T e B b : Nat} {bs : List Value} {w w' : World} (h : Lib.IsBuilder T e B b bs w) (m : Mw w w') : Lib.IsBuilder T e B b bs w' := by
 have key : ∀ p, Lib.BuilderAt T e B b p bs w → Lib.BuilderAt T e B b p bs w' := fun p ⟨hB, v, hb, ho, hn⟩ =>
  ⟨hB, v, (m.block b (Array.getElem?_eq_some_iff.1 hb).1).trans hb, ho.kept (row := none) ⟨m.os, m.tape, m.output, m.size, fun k hk _ => m.block k hk⟩ (by cases e : v.ownBlock <;> simp), hn⟩
 rcases h with h | h
 ·exact Or.inl (key _ h)
 ·exact Or.inr (key _ h)
theorem bt_rg (s : ByteArray) (k : Nat) : 0 ≤ bt s k ∧ bt s k ≤ 255 := by
 unfold bt
 split
 ·have := UInt8.toNat_lt s[k]; omega
 ·omega
theorem hexB_ok (h l : Int) : 0 ≤ (hexB h l).1 ∧ (hexB h l).1 ≤ 255 ∧ 0 ≤ (hexB h l).2 ∧ (hexB h l).2 ≤ 4 := by
 unfold hexB
 split
 ·decide
 ·rename_i h0
  have h1 := hxd_cases h
  have h2 := hxd_cases l
  split
  ·decide
  ·show 0 ≤ 16 * hxd h + hxd l ∧ 16 * hxd h + hxd l ≤ 255 ∧ (0 : Int) ≤ 4 ∧ (4 : Int) ≤ 4
   rcases h1 with h1 | ⟨a, ha, h1⟩
   ·omega
   ·rcases h2 with h2 | ⟨b, hb, h2⟩ <;> omega
theorem fb_ok {s : ByteArray} (h0 : 0 < s.size) : 0 ≤ (fb s).1 ∧ (fb s).1 ≤ 255 ∧ 0 ≤ (fb s).2 ∧ (fb s).2 ≤ s.size := by
 have b0 := bt_rg s 0
 have b1 := bt_rg s 1
 unfold fb
 split
 ·split
  ·exact ⟨by decide, by decide, by decide, by omega⟩
  ·exact ⟨b0.1, b0.2, by show (0 : Int) ≤ 1; decide, by show (1 : Int) ≤ _; omega⟩
 ·split
  ·exact ⟨by decide, by decide, by decide, by omega⟩
  ·split
   ·exact ⟨b1.1, b1.2, by show (0 : Int) ≤ 2; decide, by show (2 : Int) ≤ _; omega⟩
   ·split
    ·rename_i h4
     have := hexB_ok (bt s 2) (bt s 3)
     omega
    ·exact ⟨by decide, by decide, by decide, by omega⟩
def uq (r : ByteArray) : Option (List UInt8) :=
 if r.size = 0 then some [] else if _h : (fb r).2 ≤ 0 then none else (uq (r.extract (fb r).2.toNat r.size)).map (fun t => (fb r).1.toNat.toUInt8 :: t)
termination_by r.size
decreasing_by rw [ByteArray.size_extract]; omega
def unq (s : ByteArray) : ByteArray × Bool :=
 if s.size < 2 ∨ (bt s 0 == 34) = false ∨ (bt s (s.size - 1) == 34) = false then (⟨#[]⟩, false)
 else match uq (s.extract 1 (s.size - 1)) with
  | none => (⟨#[]⟩, false)
  | some l => (⟨l.toArray⟩, true)
theorem uq_0 {r : ByteArray} (h : r.size = 0) : uq r = some [] := by rw [uq, if_pos h]
theorem uq_x {r : ByteArray} (h : ¬ r.size = 0) (h2 : (fb r).2 = 0) : uq r = none := by rw [uq, if_neg h, dif_pos (by omega)]
theorem uq_s {r : ByteArray} {c : Int} {u : Nat} (h : ¬ r.size = 0) (hc : (fb r).1 = c) (hu : (fb r).2 = (u : Int)) (h2 : u ≠ 0) : uq r = (uq (r.extract u r.size)).map (fun t => c.toNat.toUInt8 :: t) := by
 rw [uq, if_neg h, dif_neg (by omega), hc, hu]; rfl
theorem bc_snoc {L : List UInt8} {c : Int} (h : 0 ≤ c ∧ c ≤ 255) : Lib.byteCells L ++ [.int .u8 c] = Lib.byteCells (L ++ [c.toNat.toUInt8]) := by
 unfold Lib.byteCells
 rw [List.map_append]
 have e : ((c.toNat.toUInt8).toNat : Int) = c := by
  rw [Nat.toUInt8, UInt8.toNat_ofNat']
  omega
 show _ = _ ++ [Value.int .u8 ((c.toNat.toUInt8).toNat : Int)]
 rw [e]
theorem nez9 {s : ByteArray} {r : Bool} (h : decide (s.size = 0) = r) (x y : Operand) (w : World) : (do eqGuard .neq 9 x y (.string s) (.string ⟨#[]⟩); binOp .neq 9 (.string s) (.string ⟨#[]⟩)).run Tryd.prog w = .ok (.bool (!r)) w := by
 refine nee_run (r := r) ?_ _ _ _
 rw [← h, Lib.toList_data, Bool.eq_iff_iff, decide_eq_true_iff, ← by8_len, List.isEmpty_iff]
 exact List.length_eq_zero_iff.symm
theorem subN1 {a : Nat} (h : 1 ≤ a) (h2 : a ≤ 9223372036854775807) (x y : Operand) (w : World) : (do eqGuard .sub 3 x y (.int .i64 (a : Int)) (.int .i64 1); binOp .sub 3 (.int .i64 (a : Int)) (.int .i64 1)).run Tryd.prog w = .ok (.int .i64 ((a - 1 : Nat) : Int)) w := by
 have e : (do eqGuard .sub 3 x y (.int .i64 (a : Int)) (.int .i64 1); binOp .sub 3 (.int .i64 (a : Int)) (.int .i64 1)).run Tryd.prog w = .ok (.int .i64 (IntKind.i64.wrap ((a : Int) - 1))) w := by kernel_rfl
 have h3 : IntKind.i64.wrap ((a : Int) - 1) = ((a - 1 : Nat) : Int) := by rw [IntKind.wrap_i64]; omega
 rw [e, h3]
theorem fb_c {r : ByteArray} {c : Int} {u : Nat} (h0 : 0 < r.size) (hc : (fb r).1 = c) (hu : (fb r).2 = (u : Int)) (w : World) : Calls Tryd.prog 39 #[.string r] w fun e w' => e = .returned (.tuple #[.int .u8 c, .int .i64 (u : Int)]) ∧ Mw w w' := by
 have h := wk (firstByte_n r w h0)
 rw [hc, hu] at h; exact h
theorem unquote_n (s : ByteArray) (w : World) (hs : s.size ≤ 140737488355328) : Calls Tryd.prog 20 #[.string s] w fun e w' => e = .returned (.tuple #[.string (unq s).1, .bool (unq s).2]) ∧ Mw w w' := by
 refine w_enter 44 Tryd.func20 Tryd.ntmps20 rfl rfl ?_
 have M : Mw w w := Mw.refl _
 refine w_seq (w_reg ?_)
 refine wl_m (.const (.string ⟨#[]⟩)) (.string ⟨#[]⟩) ?_
 refine wl_m (.const (.bool false)) (.bool false) ?_
 refine w_nil (xn_then (w_seq (w_seq ?_)))
 cases hf0 : decide (s.size < 2) with
 | true =>
  have hf0p := of_decide_eq_true hf0
  refine w_reg ?_
  refine wl_m (.tmp 0) (.string s) ?_
  refine wl_val (.int .i64 ((s.size : Nat) : Int)) (len_s _ _ s (by exact rfl) _ _ _ _ _ _) rfl ?_
  refine wl_b .lss 3 (.tmp 9) (.const (.int .i64 (2))) (.int .i64 ((s.size : Nat) : Int)) (.int .i64 (2)) (.bool true) (ltN hf0 _ _ _) ?_
  refine wl_m (.tmp 10) (.bool true) ?_
  refine wl_skip rfl (wl_skip rfl (wl_skip rfl ?_))
  refine wl_pick (.tmp 11) (.const (.bool true)) (.tmp 14) true (.bool true) (fun _ => rfl) rfl rfl rfl ?_
  refine wl_m (.tmp 15) (.bool true) ?_
  refine wl_skip rfl (wl_skip rfl (wl_skip rfl (wl_skip rfl (wl_skip rfl (wl_skip rfl ?_)))))
  refine wl_pick (.tmp 16) (.const (.bool true)) (.tmp 22) true (.bool true) (fun _ => rfl) rfl rfl rfl ?_
  refine w_nil (xn_then (w_condT rfl (w_seq (w_reg ?_))))
  refine wl_m (.const (.string ⟨#[]⟩)) (.string ⟨#[]⟩) ?_
  refine wl_m (.const (.bool false)) (.bool false) ?_
  refine w_nil (xn_then (w_ret (xr_then ?_)))
  exact w_ret2 _ _ (.string ⟨#[]⟩) (.bool false) rfl rfl rfl ⟨by unfold unq; rw [if_pos (Or.inl hf0p)], M⟩
 | false =>
  have hf0p := of_decide_eq_false hf0
  cases hf1 : (bt s (0) == 34) with
  | true =>
   cases hf2 : (bt s (s.size - 1) == 34) with
   | true =>
    refine w_reg ?_
    refine wl_m (.tmp 0) (.string s) ?_
    refine wl_val (.int .i64 ((s.size : Nat) : Int)) (len_s _ _ s (by exact rfl) _ _ _ _ _ _) rfl ?_
    refine wl_b .lss 3 (.tmp 9) (.const (.int .i64 (2))) (.int .i64 ((s.size : Nat) : Int)) (.int .i64 (2)) (.bool false) (ltN hf0 _ _ _) ?_
    refine wl_m (.tmp 10) (.bool false) ?_
    refine wl_m (.tmp 0) (.string s) ?_
    refine wl_bin (fun x y => Instr.index 9 x y) (.tmp 12) (.const (.int .i64 (0))) (.string s) (.int .i64 (0)) (.int .u8 (bt s (0))) (fun _ => rfl) rfl rfl (idx_b (k := 0) (by omega) _) rfl ?_
    refine wl_b .neq 5 (.tmp 13) (.const (.int .u8 (34))) (.int .u8 (bt s (0))) (.int .u8 (34)) (.bool false) (ne5r hf1 _ _ _) ?_
    refine wl_pick (.tmp 11) (.const (.bool true)) (.tmp 14) false (.bool false) (fun _ => rfl) rfl rfl rfl ?_
    refine wl_m (.tmp 15) (.bool false) ?_
    refine wl_m (.tmp 0) (.string s) ?_
    refine wl_m (.tmp 0) (.string s) ?_
    refine wl_val (.int .i64 ((s.size : Nat) : Int)) (len_s _ _ s (by exact rfl) _ _ _ _ _ _) rfl ?_
    refine wl_b .sub 3 (.tmp 19) (.const (.int .i64 (1))) (.int .i64 ((s.size : Nat) : Int)) (.int .i64 (1)) (.int .i64 ((s.size - 1 : Nat) : Int)) (subN1 (by omega) (by omega) _ _ _) ?_
    refine wl_bin (fun x y => Instr.index 9 x y) (.tmp 17) (.tmp 20) (.string s) (.int .i64 ((s.size - 1 : Nat) : Int)) (.int .u8 (bt s (s.size - 1))) (fun _ => rfl) rfl rfl (idx_b (k := s.size - 1) (by omega) _) rfl ?_
    refine wl_b .neq 5 (.tmp 21) (.const (.int .u8 (34))) (.int .u8 (bt s (s.size - 1))) (.int .u8 (34)) (.bool false) (ne5r hf2 _ _ _) ?_
    refine wl_pick (.tmp 16) (.const (.bool true)) (.tmp 22) false (.bool false) (fun _ => rfl) rfl rfl rfl ?_
    refine w_nil (xn_then (w_condF rfl (w_skip (xn_then (w_seq (w_reg ?_))))))
    refine wl_new64 rfl rfl ?_
    intro kb wb hkb hq hIB
    replace hIB := hIB w.heap.size (by have := M.size; omega)
    replace M := M.trans hq
    clear hq
    refine w_nil (xn_then (w_seq (w_seq (w_reg ?_))))
    refine wl_m (.tmp 0) (.string s) ?_
    refine wl_m (.tmp 0) (.string s) ?_
    refine wl_val (.int .i64 ((s.size : Nat) : Int)) (len_s _ _ s (by exact rfl) _ _ _ _ _ _) rfl ?_
    refine wl_b .sub 3 (.tmp 26) (.const (.int .i64 (1))) (.int .i64 ((s.size : Nat) : Int)) (.int .i64 (1)) (.int .i64 ((s.size - 1 : Nat) : Int)) (subN1 (by omega) (by omega) _ _ _) ?_
    refine wl_val (.string (s.extract (1) (s.size - 1))) (mid_run _ _ _ _ s (1) (s.size - 1) (by exact rfl) (by exact rfl) (by exact rfl) (by omega) (by omega) _ _ _ _ _ _) rfl ?_
    refine wl_m (.tmp 28) (.string (s.extract (1) (s.size - 1))) ?_
    refine w_nil (xn_then (w_block ?_))
    have hun : unq s = (match uq (s.extract 1 (s.size - 1)) with | none => (⟨#[]⟩, false) | some l => (⟨l.toArray⟩, true)) := by unfold unq; rw [if_neg (fun e => by rcases e with e | e | e; (exact hf0p e); (rw [hf1] at e; cases e); (rw [hf2] at e; cases e))]
    refine w_loop (fun m l w1 => ∃ (r : ByteArray) (L : List UInt8), m = r.size ∧ look l 4 = pt kb 0 ∧ look l 5 = .string r ∧ Lib.IsBuilder 64 5 w.heap.size kb (Lib.byteCells L) w1 ∧ uq (s.extract 1 (s.size - 1)) = (uq r).map (L ++ ·) ∧ L.length + r.size ≤ s.size ∧ Mw w w1) _ ⟨s.extract 1 (s.size - 1), [], rfl, rfl, rfl, hIB, by cases uq (s.extract 1 (s.size - 1)) <;> rfl, by rw [ByteArray.size_extract]; simp only [List.length_nil]; omega, M⟩ ?_
    clear M hIB
    rintro m l wl ⟨r, L, rfl, e4, e5, hIB, hU, hL, M⟩
    by_cases hr : r.size = 0
    ·have hrd := decide_eq_true hr
     rw [uq_0 hr] at hU
     rw [hU] at hun
     refine w_seq (w_seq (w_reg ?_))
     refine wl_mv (.tmp 5) (.string r) (fun _ => rfl) e5 rfl ?_
     refine wl_b .neq 9 (.tmp 29) (.const (.string ⟨#[]⟩)) (.string r) (.string ⟨#[]⟩) (.bool false) (nez9 hrd _ _ _) ?_
     refine w_nil (xn_then (w_condF rfl (w_exit (xx_then (xx_then (xx_blk (xn_then (w_seq (w_reg ?_)))))))))
     refine wl_callx 41 [(.tmp 4)] _ [pt kb 0] rfl (li1 e4) (fun _ _ => by kernel_rfl) (Tryd.Builder_String_any w.heap.size kb L _ hIB M.size) rfl ?_
     rintro _ w11 ⟨rfl, hq⟩
     refine ⟨_, rfl, ?_⟩
     replace M := Below.trans M hq
     refine wl_m (.tmp 43) (.string ⟨L.toArray⟩) ?_
     refine wl_m (.const (.bool true)) (.bool true) ?_
     refine w_nil (xn_then (w_ret ?_))
     exact w_ret2 _ _ (.string ⟨L.toArray⟩) (.bool true) rfl rfl rfl ⟨by rw [hun]; simp, M⟩
    ·have hrd := decide_eq_false hr
     have hr0 : 0 < r.size := by omega
     have hfb := fb_ok hr0
     obtain ⟨c, hc⟩ : ∃ c, (fb r).1 = c := ⟨_, rfl⟩
     obtain ⟨u, hu⟩ : ∃ u : Nat, (fb r).2 = (u : Int) := ⟨(fb r).2.toNat, by omega⟩
     rw [hc, hu] at hfb
     have hcr : 0 ≤ c ∧ c ≤ 255 := ⟨hfb.1, hfb.2.1⟩
     refine w_seq (w_seq (w_reg ?_))
     refine wl_mv (.tmp 5) (.string r) (fun _ => rfl) e5 rfl ?_
     refine wl_b .neq 9 (.tmp 29) (.const (.string ⟨#[]⟩)) (.string r) (.string ⟨#[]⟩) (.bool true) (nez9 hrd _ _ _) ?_
     refine w_nil (xn_then (w_condT rfl (w_skip (xn_then (w_block (w_seq (w_reg ?_)))))))
     refine wl_mv (.tmp 5) (.string r) (fun _ => rfl) e5 rfl ?_
     refine wl_call 39 [(.tmp 32)] _ [.string r] (.tuple #[.int .u8 (c), .int .i64 ((u : Nat) : Int)]) rfl rfl (fun _ _ => by kernel_rfl) (fb_c hr0 hc hu _) rfl ?_
     intro w11 hq
     replace hIB := IB.mw hIB hq
     replace M := M.trans hq
     clear hq
     refine wl_m (.tmp 33) (.tuple #[.int .u8 (c), .int .i64 ((u : Nat) : Int)]) ?_
     refine wl_un (fun v => Instr.extract v 0) (.tmp 31) (.tuple #[.int .u8 (c), .int .i64 ((u : Nat) : Int)]) (.int .u8 (c)) (fun _ => rfl) rfl (by kernel_rfl) rfl ?_
     refine wl_un (fun v => Instr.extract v 1) (.tmp 31) (.tuple #[.int .u8 (c), .int .i64 ((u : Nat) : Int)]) (.int .i64 ((u : Nat) : Int)) (fun _ => rfl) rfl (by kernel_rfl) rfl ?_
     refine wl_m (.tmp 34) (.int .u8 (c)) ?_
     refine wl_m (.tmp 35) (.int .i64 ((u : Nat) : Int)) ?_
     refine w_nil (xn_then (w_seq (w_seq ?_)))
     cases hf20 : decide (u = 0) with
     | true =>
      have hf20p := of_decide_eq_true hf20
      refine w_reg ?_
      refine wl_m (.tmp 7) (.int .i64 ((u : Nat) : Int)) ?_
      refine wl_b .eql 3 (.tmp 36) (.const (.int .i64 (0))) (.int .i64 ((u : Nat) : Int)) (.int .i64 (0)) (.bool true) (eqN hf20 _ _ _) ?_
      refine w_nil (xn_then (w_condT rfl (w_seq (w_reg ?_))))
      refine wl_m (.const (.string ⟨#[]⟩)) (.string ⟨#[]⟩) ?_
      refine wl_m (.const (.bool false)) (.bool false) ?_
      refine w_nil (xn_then (w_ret (xr_then (xr_blk (xr_then (xr_blk (xr_then ?_)))))))
      exact w_ret2 _ _ (.string ⟨#[]⟩) (.bool false) rfl rfl rfl ⟨by rw [hun, hU, uq_x hr (by omega)]; rfl, M⟩
     | false =>
      have hf20p := of_decide_eq_false hf20
      refine w_reg ?_
      refine wl_m (.tmp 7) (.int .i64 ((u : Nat) : Int)) ?_
      refine wl_b .eql 3 (.tmp 36) (.const (.int .i64 (0))) (.int .i64 ((u : Nat) : Int)) (.int .i64 (0)) (.bool false) (eqN hf20 _ _ _) ?_
      refine w_nil (xn_then (w_condF rfl (w_skip (xn_then (w_seq (w_reg ?_))))))
      refine wl_m (.tmp 6) (.int .u8 (c)) ?_
      refine wl_callx 40 [(.tmp 4), (.tmp 38)] _ [pt kb 0, .int .u8 (c)] rfl (li2 e4 rfl) (fun _ _ => by kernel_rfl) (Tryd.Builder_WriteByte w.heap.size kb (Lib.byteCells L) c _ hIB (by rw [Lib.byteCells_length]; omega) M.size) rfl ?_
      rintro _ w12 ⟨rfl, hBA, hq⟩
      refine ⟨_, rfl, ?_⟩
      rw [bc_snoc hcr] at hBA
      have hIB : Lib.IsBuilder 64 5 w.heap.size kb (Lib.byteCells (L ++ [c.toNat.toUInt8])) w12 := Or.inr hBA
      replace M := Below.trans M hq
      refine w_nil (xn_then (w_reg ?_))
      refine wl_mv (.tmp 5) (.string r) (fun _ => rfl) e5 rfl ?_
      refine wl_m (.tmp 7) (.int .i64 ((u : Nat) : Int)) ?_
      refine wl_val (.string (r.extract (u) r.size)) (lo2_run _ _ _ r (u) (by exact rfl) (by exact rfl) (by omega) _ _ _ _ _ _) rfl ?_
      refine wl_m (.tmp 42) (.string (r.extract (u) r.size)) ?_
      refine w_nil (xn_blk ?_)
      exact xn_loop (r.extract u r.size).size (by rw [ByteArray.size_extract]; omega) ⟨r.extract u r.size, L ++ [c.toNat.toUInt8], rfl, e4, rfl, hIB, by rw [hU, uq_s hr hc hu (by omega)]; cases uq (r.extract u r.size) <;> simp, by rw [ByteArray.size_extract, List.length_append]; simp only [List.length_singleton]; omega, M⟩
   | false =>
    refine w_reg ?_
    refine wl_m (.tmp 0) (.string s) ?_
    refine wl_val (.int .i64 ((s.size : Nat) : Int)) (len_s _ _ s (by exact rfl) _ _ _ _ _ _) rfl ?_
    refine wl_b .lss 3 (.tmp 9) (.const (.int .i64 (2))) (.int .i64 ((s.size : Nat) : Int)) (.int .i64 (2)) (.bool false) (ltN hf0 _ _ _) ?_
    refine wl_m (.tmp 10) (.bool false) ?_
    refine wl_m (.tmp 0) (.string s) ?_
    refine wl_bin (fun x y => Instr.index 9 x y) (.tmp 12) (.const (.int .i64 (0))) (.string s) (.int .i64 (0)) (.int .u8 (bt s (0))) (fun _ => rfl) rfl rfl (idx_b (k := 0) (by omega) _) rfl ?_
    refine wl_b .neq 5 (.tmp 13) (.const (.int .u8 (34))) (.int .u8 (bt s (0))) (.int .u8 (34)) (.bool false) (ne5r hf1 _ _ _) ?_
    refine wl_pick (.tmp 11) (.const (.bool true)) (.tmp 14) false (.bool false) (fun _ => rfl) rfl rfl rfl ?_
    refine wl_m (.tmp 15) (.bool false) ?_
    refine wl_m (.tmp 0) (.string s) ?_
    refine wl_m (.tmp 0) (.string s) ?_
    refine wl_val (.int .i64 ((s.size : Nat) : Int)) (len_s _ _ s (by exact rfl) _ _ _ _ _ _) rfl ?_
    refine wl_b .sub 3 (.tmp 19) (.const (.int .i64 (1))) (.int .i64 ((s.size : Nat) : Int)) (.int .i64 (1)) (.int .i64 ((s.size - 1 : Nat) : Int)) (subN1 (by omega) (by omega) _ _ _) ?_
    refine wl_bin (fun x y => Instr.index 9 x y) (.tmp 17) (.tmp 20) (.string s) (.int .i64 ((s.size - 1 : Nat) : Int)) (.int .u8 (bt s (s.size - 1))) (fun _ => rfl) rfl rfl (idx_b (k := s.size - 1) (by omega) _) rfl ?_
    refine wl_b .neq 5 (.tmp 21) (.const (.int .u8 (34))) (.int .u8 (bt s (s.size - 1))) (.int .u8 (34)) (.bool true) (ne5r hf2 _ _ _) ?_
    refine wl_pick (.tmp 16) (.const (.bool true)) (.tmp 22) false (.bool true) (fun _ => rfl) rfl rfl rfl ?_
    refine w_nil (xn_then (w_condT rfl (w_seq (w_reg ?_))))
    refine wl_m (.const (.string ⟨#[]⟩)) (.string ⟨#[]⟩) ?_
    refine wl_m (.const (.bool false)) (.bool false) ?_
    refine w_nil (xn_then (w_ret (xr_then ?_)))
    exact w_ret2 _ _ (.string ⟨#[]⟩) (.bool false) rfl rfl rfl ⟨by unfold unq; rw [if_pos (Or.inr (Or.inr hf2))], M⟩
  | false =>
   refine w_reg ?_
   refine wl_m (.tmp 0) (.string s) ?_
   refine wl_val (.int .i64 ((s.size : Nat) : Int)) (len_s _ _ s (by exact rfl) _ _ _ _ _ _) rfl ?_
   refine wl_b .lss 3 (.tmp 9) (.const (.int .i64 (2))) (.int .i64 ((s.size : Nat) : Int)) (.int .i64 (2)) (.bool false) (ltN hf0 _ _ _) ?_
   refine wl_m (.tmp 10) (.bool false) ?_
   refine wl_m (.tmp 0) (.string s) ?_
   refine wl_bin (fun x y => Instr.index 9 x y) (.tmp 12) (.const (.int .i64 (0))) (.string s) (.int .i64 (0)) (.int .u8 (bt s (0))) (fun _ => rfl) rfl rfl (idx_b (k := 0) (by omega) _) rfl ?_
   refine wl_b .neq 5 (.tmp 13) (.const (.int .u8 (34))) (.int .u8 (bt s (0))) (.int .u8 (34)) (.bool true) (ne5r hf1 _ _ _) ?_
   refine wl_pick (.tmp 11) (.const (.bool true)) (.tmp 14) false (.bool true) (fun _ => rfl) rfl rfl rfl ?_
   refine wl_m (.tmp 15) (.bool true) ?_
   refine wl_skip rfl (wl_skip rfl (wl_skip rfl (wl_skip rfl (wl_skip rfl (wl_skip rfl ?_)))))
   refine wl_pick (.tmp 16) (.const (.bool true)) (.tmp 22) true (.bool true) (fun _ => rfl) rfl rfl rfl ?_
   refine w_nil (xn_then (w_condT rfl (w_seq (w_reg ?_))))
   refine wl_m (.const (.string ⟨#[]⟩)) (.string ⟨#[]⟩) ?_
   refine wl_m (.const (.bool false)) (.bool false) ?_
   refine w_nil (xn_then (w_ret (xr_then ?_)))
   exact w_ret2 _ _ (.string ⟨#[]⟩) (.bool false) rfl rfl rfl ⟨by unfold unq; rw [if_pos (Or.inr (Or.inl hf1))], M⟩
end Go.Proofs.YthgknegocfhdbaaDoor.V
/-
 A decimal text's parts: what the program's cuts make of them; digits with no 0 ahead.
-/
namespace Go.Proofs.YthgknegocfhdbaaDoor
open Go.RowKit
theorem dig_ne {x : UInt8} (h : isD x = true) (c : UInt8) (hc : isD c = false) : x ≠ c := fun e => by rw [e, hc] at h; cases h
theorem d45 : isD 45 = false := rfl
theorem d46 : isD 46 = false := rfl
theorem isD_b {x : UInt8} (h : isD x = true) : 48 ≤ (x.toNat : Int) ∧ (x.toNat : Int) ≤ 57 := by
 unfold isD at h; simpa using h
/-! The program's cuts. -/
theorem ixb_hit : ∀ (A B : List UInt8), (∀ x ∈ A, isD x = true) → Lib.indexByte (A ++ 46 :: B) 46 = (A.length : Int)
 | [], B, _ => by simp [Lib.indexByte]
 | a :: A, B, h => by
  have ha := dig_ne (h a (by simp)) 46 d46
  have ih := ixb_hit A B (fun x hx => h x (by simp [hx]))
  simp only [List.cons_append, Lib.indexByte, ih]
  rw [if_neg (by simpa using ha), if_neg (by simp)]
  simp
theorem ixb_miss : ∀ (A : List UInt8), (∀ x ∈ A, isD x = true) → Lib.indexByte A 46 = -1
 | [], _ => rfl
 | a :: A, h => by
  have ha := dig_ne (h a (by simp)) 46 d46
  have ih := ixb_miss A (fun x hx => h x (by simp [hx]))
  simp only [Lib.indexByte, ih]
  rw [if_neg (by simpa using ha)]
  rfl
theorem cut_df {A B : List UInt8} (h : ∀ x ∈ A, isD x = true) : (Lib.cut (A ++ (if B = [] then [] else 46 :: B)) [46]).1 = A ∧ (Lib.cut (A ++ (if B = [] then [] else 46 :: B)) [46]).2.1 = B := by
 unfold Lib.cut
 rw [Lib.index_one]
 by_cases hB : B = []
 ·subst hB
  rw [if_pos rfl, List.append_nil, ixb_miss A h]
  exact ⟨rfl, rfl⟩
 ·rw [if_neg hB, ixb_hit A B h, if_pos (by omega)]
  simp
theorem pre_df {l A B : List UInt8} {b : Bool} (h : Df l b A B) : Lib.hasPrefix l [45] = b ∧ Lib.trimPrefix l [45] = A ++ (if B = [] then [] else 46 :: B) := by
 have hp : Lib.hasPrefix l [45] = b := by
  rw [h.eq]
  unfold Lib.hasPrefix
  cases b with
  | true => rfl
  | false =>
   cases hA : A with
   | nil => exact absurd hA h.ne
   | cons a r =>
    have := dig_ne (h.ad a (by rw [hA]; simp)) 45 d45
    simp [sg8, List.isPrefixOf]
    exact fun e => this e.symm
 refine ⟨hp, ?_⟩
 unfold Lib.trimPrefix
 rw [hp]
 cases b with
 | true => rw [if_pos rfl, h.eq]; rfl
 | false => rw [if_neg (by simp), h.eq]; rfl
/-! Digits with no 0 ahead. -/
abbrev dw0 (l : List UInt8) : List UInt8 := l.dropWhile (· == 48)
structure Cn (z : List UInt8) : Prop where
 ne : z ≠ []
 dg : ∀ x ∈ z, isD x = true
 hd : z.length = 1 ∨ z.head? ≠ some 48
theorem dw0_mem {l : List UInt8} {x : UInt8} (h : x ∈ dw0 l) : x ∈ l := (List.dropWhile_sublist _).subset h
theorem dw0_head {l : List UInt8} : (dw0 l).head? ≠ some 48 := by
 intro h
 cases hd : dw0 l with
 | nil => rw [hd] at h; cases h
 | cons a r =>
  rw [hd] at h
  cases h
  have := List.head_dropWhile_not (p := (· == (48 : UInt8))) (l := l) (by rw [show l.dropWhile (· == 48) = 48 :: r from hd]; simp)
  simp only [show l.dropWhile (· == 48) = 48 :: r from hd] at this
  simp at this
theorem cn_woz {L : List UInt8} (h : ∀ x ∈ L, isD x = true) : Cn (woz L) := by
 unfold woz
 by_cases hz : L.dropWhile (· == 48) = []
 ·rw [if_pos hz]
  exact ⟨by simp, by intro x hx; simp at hx; subst hx; rfl, Or.inl rfl⟩
 ·rw [if_neg hz]
  exact ⟨hz, fun x hx => h x (dw0_mem hx), Or.inr dw0_head⟩
theorem cn_isT {z : List UInt8} (h : Cn z) : isT ⟨z.toArray⟩ := by
 have hl : (⟨z.toArray⟩ : ByteArray).size = z.length := tx_size z
 have hp : 0 < z.length := List.length_pos_iff.2 h.ne
 refine ⟨by omega, fun hh => ?_, fun j hj _ => ?_⟩
 ·obtain ⟨h1, h2⟩ := hh
  rcases h.hd with h3 | h3
  ·omega
  ·apply h3
   rw [List.head?_eq_getElem?, List.getElem?_eq_getElem hp]
   congr 1
   apply UInt8.toNat_inj.1
   have e48 : (48 : UInt8).toNat = 48 := rfl
   have h2' : ((z[0]).toNat : Int) = 48 := h2
   omega
 ·have hj' : j < z.length := by omega
  exact isD_b (h.dg (z[j]) (List.getElem_mem hj'))
theorem pvk_z8 (z : List UInt8) : pvk ⟨z.toArray⟩ (⟨z.toArray⟩ : ByteArray).size = pv z := by
 unfold pvk
 rw [tx_size]
 simp
abbrev nof (A B : List UInt8) : Int := pv (woz (A ++ B))
theorem Df.dg {l A B : List UInt8} {b : Bool} (h : Df l b A B) : ∀ x ∈ A ++ B, isD x = true := fun x hx => by
 rcases List.mem_append.1 hx with hx | hx
 ·exact h.ad x hx
 ·exact h.bd x hx
end Go.Proofs.YthgknegocfhdbaaDoor

/-
 Parse of a decimal text: what the program says.
-/
namespace Go.Proofs.YthgknegocfhdbaaDoor
open Go.RowKit
def pe (A B : List UInt8) : Int := if 18 < B.length then 31 else if nof A B < MM then 0 else 7
theorem lp_n {z : List UInt8} (hc : Cn z) (hl : z.length ≤ maxLen) (w : World) : Calls Tryd.prog 61 #[tx z] w fun e w' => e = .returned (.tuple #[nv (if pv z < MM then pv z else 0), .int .i64 (if pv z < MM then 0 else 7)]) ∧ Mo w w' := by
 haveI := Classical.propDecidable (isT ⟨z.toArray⟩)
 refine (parse_n ⟨z.toArray⟩ w (by rw [tx_size]; exact hl)).mono fun e w' ⟨he, hm⟩ => ⟨?_, hm⟩
 rw [he, if_pos (cn_isT hc)]
 unfold resP
 rw [pvk_z8]
 by_cases h : pv z < MM
 ·rw [if_pos h, if_pos h, if_pos h]
 ·rw [if_neg h, if_neg h, if_neg h]; rfl
theorem Df.len {l A B : List UInt8} {b : Bool} (h : Df l b A B) : A.length + B.length ≤ l.length := by
 rw [h.eq]
 by_cases hB : B = []
 ·rw [if_pos hB, hB]; simp
 ·rw [if_neg hB]; simp; omega
theorem woz_len2 {L : List UInt8} (h : L ≠ []) : (woz L).length ≤ L.length := by
 have hp := List.length_pos_iff.2 h
 unfold woz
 split
 ·simp; omega
 ·exact (List.dropWhile_sublist (p := (· == (48 : UInt8))) (l := L)).length_le
def pva (b : Bool) (A B : List UInt8) : Value := if pe A B = 0 then .tuple #[dc b (nof A B) (B.length : Int), .int .i64 0] else er (pe A B)
theorem parse13_df {s : ByteArray} {b : Bool} {A B : List UInt8} (h : Df (by8 s) b A B) (hs : s.size ≤ maxLen) (w : World) : Calls Tryd.prog 48 #[.string s] w fun e w' => e = .returned (pva b A B) ∧ Mo w w' := by
 have hi : ∀ w, Calls Tryd.prog 58 #[.string s] w fun e w' => e = .returned (.bool true) ∧ Mo w w' := fun w => by
  have := isDec_n s w hs; rw [dec_df h] at this; exact this
 obtain ⟨hp1, hp2⟩ := pre_df h
 have hC : ∀ w, Calls Tryd.prog 59 #[.string s, .string ⟨#[45]⟩] w fun e w' => e = .returned (.tuple #[tx (A ++ (if B = [] then [] else 46 :: B)), .bool b]) ∧ Mo w w' := fun w => by
  refine (Tryd.strings_CutPrefix s ⟨#[45]⟩ w).mono fun e w' ⟨he, hm⟩ => ⟨?_, by rw [hm]; exact Mo.refl _⟩
  rw [he]
  show Ending.returned (.tuple #[tx (Lib.trimPrefix (by8 s) [45]), .bool (Lib.hasPrefix (by8 s) [45])]) = _
  rw [hp1, hp2]
 have hlen := h.len
 rw [by8_len] at hlen
 have hlt : (A ++ (if B = [] then [] else 46 :: B)).length ≤ s.size := by
  rw [← by8_len, h.eq]; simp only [List.length_append]; omega
 obtain ⟨hc1, hc2⟩ := cut_df (B := B) h.ad
 have hD : ∀ w, Calls Tryd.prog 60 #[tx (A ++ (if B = [] then [] else 46 :: B)), .string ⟨#[46]⟩] w fun e w' => e = .returned (.tuple #[tx A, tx B, .bool (Lib.cut (A ++ (if B = [] then [] else 46 :: B)) [46]).2.2]) ∧ Mo w w' := fun w => by
  refine (cut_n ⟨(A ++ (if B = [] then [] else 46 :: B)).toArray⟩ 46 w (by rw [tx_size]; omega)).mono fun e w' ⟨he, hm⟩ => ⟨?_, hm⟩
  rw [he]
  show Ending.returned (.tuple #[tx (Lib.cut (A ++ (if B = [] then [] else 46 :: B)) [46]).1, tx (Lib.cut (A ++ (if B = [] then [] else 46 :: B)) [46]).2.1, .bool (Lib.cut (A ++ (if B = [] then [] else 46 :: B)) [46]).2.2]) = _
  rw [hc1, hc2]
 unfold pva pe
 by_cases h18 : 18 < B.length
 ·rw [if_pos h18, if_neg (by decide)]
  exact parse_b s w hi _ A B b _ hC hD (decide_eq_true (by omega))
 ·rw [if_neg h18]
  have hl : decide ((B.length : Int) > 18) = false := decide_eq_false (by omega)
  have hy : (⟨A.toArray⟩ : ByteArray) ++ ⟨B.toArray⟩ = ⟨(A ++ B).toArray⟩ := by
   have e : by8 ((⟨A.toArray⟩ : ByteArray) ++ ⟨B.toArray⟩) = A ++ B := by rw [by8_app]
   calc (⟨A.toArray⟩ : ByteArray) ++ ⟨B.toArray⟩ = ⟨((⟨A.toArray⟩ : ByteArray) ++ ⟨B.toArray⟩).data⟩ := rfl
    _ = ⟨(by8 ((⟨A.toArray⟩ : ByteArray) ++ ⟨B.toArray⟩)).toArray⟩ := by rw [Array.toArray_toList]
    _ = ⟨(A ++ B).toArray⟩ := by rw [e]
  have hZ : ∀ w, Calls Tryd.prog 62 #[.string ⟨(A ++ B).toArray⟩] w fun e w' => e = .returned (tx (woz (A ++ B))) ∧ Mo w w' := fun w => withoutZeros_n ⟨(A ++ B).toArray⟩ w
  have hwl := woz_len2 (L := A ++ B) (by simp [h.ne])
  simp only [List.length_append] at hwl
  have hP := fun w => lp_n (cn_woz h.dg) (by omega) w
  unfold maxLen at hs
  by_cases hM : nof A B < MM
  ·rw [if_pos hM, if_pos rfl]
   have hM' : pv (woz (A ++ B)) < MM := hM
   simp only [if_pos hM'] at hP
   exact parse_d s w hi _ A B b _ hC hD _ hl (by omega) _ hy hZ _ 0 hP rfl
  ·rw [if_neg hM, if_neg (by decide)]
   have hM' : ¬ pv (woz (A ++ B)) < MM := hM
   simp only [if_neg hM'] at hP
   exact parse_c s w hi _ A B b _ hC hD _ hl (by omega) _ hy hZ _ 7 hP rfl
end Go.Proofs.YthgknegocfhdbaaDoor

/-
 Bytes put behind a slice of one's own, and a slice's bytes as a text: the laws of the steps.
-/
namespace Go.Proofs.YthgknegocfhdbaaDoor
open Go.RowKit
theorem inf5 : ∃ i, Tryd.prog.info? 5 = some i ∧ i.zero = some (.int .u8 0) ∧ i.size = 1 ∧ i.bytes = 1 := by
 have h : (Tryd.prog.info? 5).map (fun i => (i.zero, i.size, i.bytes)) = some (some (.int .u8 0), 1, 1) := by kernel_rfl
 cases hi : Tryd.prog.info? 5 with
 | none => rw [hi] at h; cases h
 | some i =>
  rw [hi] at h
  simp at h
  exact ⟨i, rfl, h.1, h.2.1, h.2.2⟩
structure AppW (v : Value) (w w' : World) : Prop where
 os : w'.os = w.os
 tape : w'.tape = w.tape
 output : w'.output = w.output
 size : w.heap.size ≤ w'.heap.size
 block : ∀ k, k < w.heap.size → v.ownBlock ≠ some k → w'.heap[k]? = w.heap[k]?
 fz : ∀ a, w'.frozen? a = w.frozen? a
theorem AppW.at {v : Value} {w w' : World} (h : AppW v w w') {j : Nat} {vs : List Value} (hA : At w j vs) (hn : v.ownBlock ≠ some j) : At w' j vs :=
 ⟨fun i u hu => (World.cell?_of_block (a := ⟨j, 0 + i, none⟩) (h.block j hA.2.2 hn)).trans (hA.1 i u hu), fun o => (h.fz _).trans (hA.2.1 o), Nat.lt_of_lt_of_le hA.2.2 h.size⟩
theorem AppW.mo {v : Value} {w w' a : World} (h : AppW v w w') (hM : Mo a w) (hn : ∀ k, v.ownBlock = some k → a.heap.size ≤ k) : Mo a w' :=
 ⟨⟨h.os.trans hM.1.os, h.tape.trans hM.1.tape, h.output.trans hM.1.output, Nat.le_trans hM.1.size h.size, fun k hk => (h.block k (Nat.lt_of_lt_of_le hk hM.1.size) (fun e => by have := hn k e; omega)).trans (hM.1.block k hk)⟩, fun x => (h.fz x).trans (hM.2 x)⟩
structure St2 (k : Nat) (w w' : World) : Prop extends St k w w' where
 os : w'.os = w.os
 tape : w'.tape = w.tape
 output : w'.output = w.output
 block : ∀ j, j ≠ k → w'.heap[j]? = w.heap[j]?
theorem heap_setCells (k j : Nat) (hj : j ≠ k) : ∀ (l : List Value) (o : Nat) (w : World), (w.setCells k o l).heap[j]? = w.heap[j]? ∧ (w.setCells k o l).os = w.os ∧ (w.setCells k o l).tape = w.tape ∧ (w.setCells k o l).output = w.output
 | [], _, _ => ⟨rfl, rfl, rfl, rfl⟩
 | v :: r, o, w => by
  have h := heap_setCells k j hj r (o + 1) (w.setCell ⟨k, o, none⟩ v)
  rw [World.setCells]
  refine ⟨h.1.trans ?_, h.2.1.trans rfl, h.2.2.1.trans rfl, h.2.2.2.trans rfl⟩
  simp [World.setCell, Array.getElem?_modify, Ne.symm hj]
theorem St2.mk2 (w : World) (k o : Nat) (l : List Value) : St2 k w (w.setCells k o l) :=
 { St.mk' w k o l with
  os := (heap_setCells k (k + 1) (by omega) l o w).2.1
  tape := (heap_setCells k (k + 1) (by omega) l o w).2.2.1
  output := (heap_setCells k (k + 1) (by omega) l o w).2.2.2
  block := fun j hj => (heap_setCells k j hj l o w).1 }
theorem own_st {w w' : World} {N k : Nat} {v : Value} {n : Nat} {xs : List Value} (m : St2 k w w') (h : w.ownsRow N 5 1 v n xs) (hne : v.ownBlock ≠ some k) : w'.ownsRow N 5 1 v n xs :=
 h.kept (row := some k) ⟨m.os, m.tape, m.output, Nat.le_of_eq m.size.symm, fun j _ hj => m.block j (fun e => hj (by rw [e]))⟩ (Or.inr hne)
section
variable {P : Program} {o : Oper} {n : Nat} {l : List (Nat × Value)} {w : World} {ops : Array Oper} {rest : List Oper} {Q : Exit → Act → World → Prop}
theorem wl_stx (ty : TypeId) (x y : Operand) (k off : Nat) (us : Array Value) (vs vs' : List Value) (hA : At w k vs) (ho : o.op = .store ty x y) (hd : o.dst = none) (hx : evl n l x = pt k off) (hy : evl n l y = .agg us)
  (hl : Nat.ble (off + us.size) vs.length = true) (hi : (P.info? ty).map (·.size) = some us.size) (h1 : us.toList.all (·.oneCell') = true) (hvs : vs' = vs.take off ++ us.toList ++ vs.drop (off + us.toList.length)) (hg : wnt n l ops o = true)
  (hk : ∀ w', St2 k w w' → At w' k vs' → WL P ops Q rest n l w') : WL P ops Q (o :: rest) n l w :=
 ⟨l_step hg (o_store ty x y _ _ ho hd hx hy (run_put hA ty off us (Nat.le_of_ble_eq_true hl) hi (by rw [← Array.all_toList]; exact h1)) (hk _ (St2.mk2 w k off us.toList) (hA.set off us.toList (by have := Nat.le_of_ble_eq_true hl; simpa using this) vs' hvs)).out)⟩
end
theorem own_mo {w w' : World} {N : Nat} {v : Value} {n : Nat} {xs : List Value} (h : w.ownsRow N 5 1 v n xs) (m : Mo w w') : w'.ownsRow N 5 1 v n xs :=
 h.kept (row := none) ⟨m.1.os, m.1.tape, m.1.output, m.1.size, fun k hk _ => m.1.block k hk⟩ (by cases e : v.ownBlock <;> simp)
end Go.Proofs.YthgknegocfhdbaaDoor

/-
 lex.meaning, kind by kind; Blank where there is no such place.
-/
namespace Go.Proofs.YthgknegocfhdbaaDoor.V
open Go.RowKit
theorem sz33 : (Tryd.prog.info? 33).map (·.size) = some 6 := by kernel_rfl
theorem sz35 : (Tryd.prog.info? 35).map (·.size) = some 10 := by kernel_rfl
theorem sz37 : (Tryd.prog.info? 37).map (·.size) = some 13 := by kernel_rfl
theorem eq23 {a b : Int} {r : Bool} (h : (a == b) = r) (x y : Operand) (w : World) : (do eqGuard .eql 23 x y (.int .i64 a) (.int .i64 b); binOp .eql 23 (.int .i64 a) (.int .i64 b)).run Tryd.prog w = .ok (.bool r) w := by
 subst h; kernel_rfl
theorem len_z (ρ : Operand → Value) (x : Operand) (s : ByteArray) (hx : ρ x = .string s) (dst : Option Tmp) (type : TypeId) (pos : String) (after : Array Edge) (guard : Option (Nat × Bool)) (w : World) : (execOp ρ { dst, op := .call { callee := .builtin .len, args := #[x], argTypes := #[9] }, type, pos, after, guard }).run Tryd.prog w = .ok (.value (.int .i64 (s.size : Int))) w := by
 simp [go_sem, hx]
theorem unq_c {s : ByteArray} {r : Bool} (h : (unq s).2 = r) (w : World) (hs : s.size ≤ 140737488355328) : Calls Tryd.prog 20 #[.string s] w fun e w' => e = .returned (.tuple #[.string (unq s).1, .bool r]) ∧ Mw w w' := h ▸ unquote_n s w hs
theorem meaning_1 (s : ByteArray) (w : World) (hs : s.size ≤ maxLen) : Calls Tryd.prog 28 #[.int .i64 (1), .string s] w fun e w' => e = .returned (.tuple #[.agg #[.int .i64 0, .bool false, .int .u64 0, .int .u64 0, .int .u64 0, .int .u64 0, .int .i64 0, .bool false, .string ⟨#[]⟩, .int .i64 0], .bool (nam s)]) ∧ Mw w w' := by
 refine w_enter 45 Tryd.func28 Tryd.ntmps28 rfl rfl ?_
 have M : Mw w w := Mw.refl _
 refine w_seq (w_reg ?_)
 refine wl_alloc 35 #[.int .i64 0, .bool false, .int .u64 0, .int .u64 0, .int .u64 0, .int .u64 0, .int .i64 0, .bool false, .string ⟨#[]⟩, .int .i64 0] rfl (fun _ => by kernel_rfl) rfl ?_
 intro k1 w1 hk hz hq Q1
 have N_k1 : w.heap.size ≤ k1 := by have := M.size; omega
 replace M := M.trans hq
 clear hk hz hq
 refine wl_m (.const (.bool false)) (.bool false) ?_
 refine w_nil (xn_then (w_seq (w_seq (w_reg ?_))))
 refine wl_m (.tmp 0) (.int .i64 (1)) ?_
 refine w_nil (xn_then (w_block (w_seq (w_reg ?_))))
 refine wl_b .eql 3 (.tmp 10) (.const (.int .i64 (1))) (.int .i64 (1)) (.int .i64 (1)) (.bool true) (by kernel_rfl) ?_
 refine wl_m (.tmp 12) (.bool true) ?_
 refine w_nil (xn_then (w_condT rfl (w_seq (w_reg ?_))))
 refine wl_build 35 [] [] (.agg #[.int .i64 0, .bool false, .int .u64 0, .int .u64 0, .int .u64 0, .int .u64 0, .int .i64 0, .bool false, .string ⟨#[]⟩, .int .i64 0]) rfl rfl (by kernel_rfl) rfl ?_
 refine wl_m (.tmp 1) (.string s) ?_
 refine wl_call 16 [(.tmp 14)] _ [.string s] (.bool (nam s)) rfl rfl (fun _ _ => by kernel_rfl) (wk (name_n s _ hs)) rfl ?_
 intro w2 hq
 replace Q1 := Q1.mo hq
 replace M := M.trans hq
 clear hq
 refine wl_st 35 (.tmp 4) (.tmp 13) k1 0 #[.int .i64 0, .bool false, .int .u64 0, .int .u64 0, .int .u64 0, .int .u64 0, .int .i64 0, .bool false, .string ⟨#[]⟩, .int .i64 0] _ [.int .i64 0, .bool false, .int .u64 0, .int .u64 0, .int .u64 0, .int .u64 0, .int .i64 0, .bool false, .string ⟨#[]⟩, .int .i64 0] Q1 rfl rfl rfl rfl rfl sz35 rfl rfl rfl ?_
 intro w3 hS Qn
 replace Q1 := Qn
 clear Qn
 replace M := hS.mo _ N_k1 M
 clear hS
 refine wl_m (.tmp 15) (.bool (nam s)) ?_
 refine w_nil (xn_then (w_ret (xr_blk (xr_then ?_))))
 exact w_ret2 _ _ (.agg #[.int .i64 0, .bool false, .int .u64 0, .int .u64 0, .int .u64 0, .int .u64 0, .int .i64 0, .bool false, .string ⟨#[]⟩, .int .i64 0]) (.bool (nam s)) rfl ⟨k1, rfl, (run_row Q1 35 0 10 _ rfl Tryd.underlying35 rfl sz35)⟩ rfl ⟨rfl, M⟩
theorem meaning_2 (s : ByteArray) (w : World) (b : Bool) (N E : Int) (k : Nat) (hP : ∀ w, Calls Tryd.prog 48 #[.string s] w fun e w' => e = .returned (.tuple #[dc b N (k : Int), .int .i64 E]) ∧ Mo w w') : Calls Tryd.prog 28 #[.int .i64 (2), .string s] w fun e w' => e = .returned (.tuple #[.agg #[.int .i64 1, .bool b, .int .u64 (l0 (N)), .int .u64 (l1 (N)), .int .u64 (l2 (N)), .int .u64 (l3 (N)), .int .i64 ((k : Int)), .bool false, .string ⟨#[]⟩, .int .i64 0], .bool (E == 0)]) ∧ Mw w w' := by
 refine w_enter 45 Tryd.func28 Tryd.ntmps28 rfl rfl ?_
 have M : Mw w w := Mw.refl _
 refine w_seq (w_reg ?_)
 refine wl_alloc 35 #[.int .i64 0, .bool false, .int .u64 0, .int .u64 0, .int .u64 0, .int .u64 0, .int .i64 0, .bool false, .string ⟨#[]⟩, .int .i64 0] rfl (fun _ => by kernel_rfl) rfl ?_
 intro k1 w1 hk hz hq Q1
 have N_k1 : w.heap.size ≤ k1 := by have := M.size; omega
 replace M := M.trans hq
 clear hk hz hq
 refine wl_m (.const (.bool false)) (.bool false) ?_
 refine w_nil (xn_then (w_seq (w_seq (w_reg ?_))))
 refine wl_m (.tmp 0) (.int .i64 (2)) ?_
 refine w_nil (xn_then (w_block (w_seq (w_reg ?_))))
 refine wl_b .eql 3 (.tmp 10) (.const (.int .i64 (1))) (.int .i64 (2)) (.int .i64 (1)) (.bool false) (by kernel_rfl) ?_
 refine wl_m (.tmp 12) (.bool false) ?_
 refine w_nil (xn_then (w_condF rfl (w_seq (w_reg ?_))))
 refine wl_b .eql 3 (.tmp 10) (.const (.int .i64 (2))) (.int .i64 (2)) (.int .i64 (2)) (.bool true) (by kernel_rfl) ?_
 refine wl_m (.tmp 17) (.bool true) ?_
 refine w_nil (xn_then (w_condT rfl (w_seq (w_reg ?_))))
 refine wl_m (.tmp 1) (.string s) ?_
 refine wl_call 48 [(.tmp 19)] _ [.string s] (.tuple #[.agg #[.bool b, .int .u64 (l0 (N)), .int .u64 (l1 (N)), .int .u64 (l2 (N)), .int .u64 (l3 (N)), .int .i64 ((k : Int))], .int .i64 (E)]) rfl rfl (fun _ _ => by kernel_rfl) (wk (hP _)) rfl ?_
 intro w2 hq
 replace Q1 := Q1.mo hq
 replace M := M.trans hq
 clear hq
 refine wl_m (.tmp 20) (.tuple #[.agg #[.bool b, .int .u64 (l0 (N)), .int .u64 (l1 (N)), .int .u64 (l2 (N)), .int .u64 (l3 (N)), .int .i64 ((k : Int))], .int .i64 (E)]) ?_
 refine wl_un (fun v => Instr.extract v 0) (.tmp 18) (.tuple #[.agg #[.bool b, .int .u64 (l0 (N)), .int .u64 (l1 (N)), .int .u64 (l2 (N)), .int .u64 (l3 (N)), .int .i64 ((k : Int))], .int .i64 (E)]) (.agg #[.bool b, .int .u64 (l0 (N)), .int .u64 (l1 (N)), .int .u64 (l2 (N)), .int .u64 (l3 (N)), .int .i64 ((k : Int))]) (fun _ => rfl) rfl (by kernel_rfl) rfl ?_
 refine wl_un (fun v => Instr.extract v 1) (.tmp 18) (.tuple #[.agg #[.bool b, .int .u64 (l0 (N)), .int .u64 (l1 (N)), .int .u64 (l2 (N)), .int .u64 (l3 (N)), .int .i64 ((k : Int))], .int .i64 (E)]) (.int .i64 (E)) (fun _ => rfl) rfl (by kernel_rfl) rfl ?_
 refine wl_alloc 33 #[.bool false, .int .u64 0, .int .u64 0, .int .u64 0, .int .u64 0, .int .i64 0] rfl (fun _ => by kernel_rfl) rfl ?_
 intro k2 w3 hk hz hq Q2
 have ne_k1_k2 : k1 ≠ k2 := by have := Q1.lt; omega
 have N_k2 : w.heap.size ≤ k2 := by have := M.size; omega
 replace Q1 := Q1.mo hq
 replace M := M.trans hq
 clear hk hz hq
 refine wl_st 33 (.tmp 6) (.tmp 21) k2 0 #[.bool b, .int .u64 (l0 (N)), .int .u64 (l1 (N)), .int .u64 (l2 (N)), .int .u64 (l3 (N)), .int .i64 ((k : Int))] _ [.bool b, .int .u64 (l0 (N)), .int .u64 (l1 (N)), .int .u64 (l2 (N)), .int .u64 (l3 (N)), .int .i64 ((k : Int))] Q2 rfl rfl rfl rfl rfl sz33 rfl rfl rfl ?_
 intro w4 hS Qn
 replace Q2 := Qn
 clear Qn
 replace Q1 := hS.other _ _ ne_k1_k2 Q1
 replace M := hS.mo _ N_k2 M
 clear hS
 refine wl_m (.tmp 22) (.int .i64 (E)) ?_
 refine w_nil (xn_then (w_seq ?_))
 cases hf0 : (E == 0) with
 | true =>
  refine w_reg ?_
  refine wl_l 33 (.tmp 6) (pt k2 0) (.agg #[.bool b, .int .u64 (l0 (N)), .int .u64 (l1 (N)), .int .u64 (l2 (N)), .int .u64 (l3 (N)), .int .i64 ((k : Int))]) (run_row Q2 33 0 6 _ rfl Tryd.underlying33 rfl sz33) ?_
  refine wl_build 35 [(0, (.const (.int .i64 (1)))), (1, (.tmp 23))] [(0, .int .i64 (1)), (1, .agg #[.bool b, .int .u64 (l0 (N)), .int .u64 (l1 (N)), .int .u64 (l2 (N)), .int .u64 (l3 (N)), .int .i64 ((k : Int))])] (.agg #[.int .i64 (1), .bool b, .int .u64 (l0 (N)), .int .u64 (l1 (N)), .int .u64 (l2 (N)), .int .u64 (l3 (N)), .int .i64 ((k : Int)), .bool false, .string ⟨#[]⟩, .int .i64 0]) rfl rfl (by kernel_rfl) rfl ?_
  refine wl_m (.tmp 7) (.int .i64 (E)) ?_
  refine wl_b .eql 23 (.tmp 25) (.const (.int .i64 (0))) (.int .i64 (E)) (.int .i64 (0)) (.bool true) (eq23 hf0 _ _ _) ?_
  refine wl_st 35 (.tmp 4) (.tmp 24) k1 0 #[.int .i64 (1), .bool b, .int .u64 (l0 (N)), .int .u64 (l1 (N)), .int .u64 (l2 (N)), .int .u64 (l3 (N)), .int .i64 ((k : Int)), .bool false, .string ⟨#[]⟩, .int .i64 0] _ [.int .i64 (1), .bool b, .int .u64 (l0 (N)), .int .u64 (l1 (N)), .int .u64 (l2 (N)), .int .u64 (l3 (N)), .int .i64 ((k : Int)), .bool false, .string ⟨#[]⟩, .int .i64 0] Q1 rfl rfl rfl rfl rfl sz35 rfl rfl rfl ?_
  intro w5 hS Qn
  replace Q1 := Qn
  clear Qn
  replace Q2 := hS.other _ _ ne_k1_k2.symm Q2
  replace M := hS.mo _ N_k1 M
  clear hS
  refine wl_m (.tmp 26) (.bool true) ?_
  refine w_nil (xn_then (w_ret (xr_blk (xr_then ?_))))
  exact w_ret2 _ _ (.agg #[.int .i64 (1), .bool b, .int .u64 (l0 (N)), .int .u64 (l1 (N)), .int .u64 (l2 (N)), .int .u64 (l3 (N)), .int .i64 ((k : Int)), .bool false, .string ⟨#[]⟩, .int .i64 0]) (.bool true) rfl ⟨k1, rfl, (run_row Q1 35 0 10 _ rfl Tryd.underlying35 rfl sz35)⟩ rfl ⟨rfl, M⟩
 | false =>
  refine w_reg ?_
  refine wl_l 33 (.tmp 6) (pt k2 0) (.agg #[.bool b, .int .u64 (l0 (N)), .int .u64 (l1 (N)), .int .u64 (l2 (N)), .int .u64 (l3 (N)), .int .i64 ((k : Int))]) (run_row Q2 33 0 6 _ rfl Tryd.underlying33 rfl sz33) ?_
  refine wl_build 35 [(0, (.const (.int .i64 (1)))), (1, (.tmp 23))] [(0, .int .i64 (1)), (1, .agg #[.bool b, .int .u64 (l0 (N)), .int .u64 (l1 (N)), .int .u64 (l2 (N)), .int .u64 (l3 (N)), .int .i64 ((k : Int))])] (.agg #[.int .i64 (1), .bool b, .int .u64 (l0 (N)), .int .u64 (l1 (N)), .int .u64 (l2 (N)), .int .u64 (l3 (N)), .int .i64 ((k : Int)), .bool false, .string ⟨#[]⟩, .int .i64 0]) rfl rfl (by kernel_rfl) rfl ?_
  refine wl_m (.tmp 7) (.int .i64 (E)) ?_
  refine wl_b .eql 23 (.tmp 25) (.const (.int .i64 (0))) (.int .i64 (E)) (.int .i64 (0)) (.bool false) (eq23 hf0 _ _ _) ?_
  refine wl_st 35 (.tmp 4) (.tmp 24) k1 0 #[.int .i64 (1), .bool b, .int .u64 (l0 (N)), .int .u64 (l1 (N)), .int .u64 (l2 (N)), .int .u64 (l3 (N)), .int .i64 ((k : Int)), .bool false, .string ⟨#[]⟩, .int .i64 0] _ [.int .i64 (1), .bool b, .int .u64 (l0 (N)), .int .u64 (l1 (N)), .int .u64 (l2 (N)), .int .u64 (l3 (N)), .int .i64 ((k : Int)), .bool false, .string ⟨#[]⟩, .int .i64 0] Q1 rfl rfl rfl rfl rfl sz35 rfl rfl rfl ?_
  intro w5 hS Qn
  replace Q1 := Qn
  clear Qn
  replace Q2 := hS.other _ _ ne_k1_k2.symm Q2
  replace M := hS.mo _ N_k1 M
  clear hS
  refine wl_m (.tmp 26) (.bool false) ?_
  refine w_nil (xn_then (w_ret (xr_blk (xr_then ?_))))
  exact w_ret2 _ _ (.agg #[.int .i64 (1), .bool b, .int .u64 (l0 (N)), .int .u64 (l1 (N)), .int .u64 (l2 (N)), .int .u64 (l3 (N)), .int .i64 ((k : Int)), .bool false, .string ⟨#[]⟩, .int .i64 0]) (.bool false) rfl ⟨k1, rfl, (run_row Q1 35 0 10 _ rfl Tryd.underlying35 rfl sz35)⟩ rfl ⟨rfl, M⟩
theorem meaning_4 (s : ByteArray) (w : World)  : Calls Tryd.prog 28 #[.int .i64 (4), .string s] w fun e w' => e = .returned (.tuple #[.agg #[.int .i64 0, .bool false, .int .u64 0, .int .u64 0, .int .u64 0, .int .u64 0, .int .i64 0, .bool false, .string ⟨#[]⟩, .int .i64 0], .bool (symb s)]) ∧ Mw w w' := by
 refine w_enter 45 Tryd.func28 Tryd.ntmps28 rfl rfl ?_
 have M : Mw w w := Mw.refl _
 refine w_seq (w_reg ?_)
 refine wl_alloc 35 #[.int .i64 0, .bool false, .int .u64 0, .int .u64 0, .int .u64 0, .int .u64 0, .int .i64 0, .bool false, .string ⟨#[]⟩, .int .i64 0] rfl (fun _ => by kernel_rfl) rfl ?_
 intro k1 w1 hk hz hq Q1
 have N_k1 : w.heap.size ≤ k1 := by have := M.size; omega
 replace M := M.trans hq
 clear hk hz hq
 refine wl_m (.const (.bool false)) (.bool false) ?_
 refine w_nil (xn_then (w_seq (w_seq (w_reg ?_))))
 refine wl_m (.tmp 0) (.int .i64 (4)) ?_
 refine w_nil (xn_then (w_block (w_seq (w_reg ?_))))
 refine wl_b .eql 3 (.tmp 10) (.const (.int .i64 (1))) (.int .i64 (4)) (.int .i64 (1)) (.bool false) (by kernel_rfl) ?_
 refine wl_m (.tmp 12) (.bool false) ?_
 refine w_nil (xn_then (w_condF rfl (w_seq (w_reg ?_))))
 refine wl_b .eql 3 (.tmp 10) (.const (.int .i64 (2))) (.int .i64 (4)) (.int .i64 (2)) (.bool false) (by kernel_rfl) ?_
 refine wl_m (.tmp 17) (.bool false) ?_
 refine w_nil (xn_then (w_condF rfl (w_seq (w_reg ?_))))
 refine wl_b .eql 3 (.tmp 10) (.const (.int .i64 (3))) (.int .i64 (4)) (.int .i64 (3)) (.bool false) (by kernel_rfl) ?_
 refine wl_m (.tmp 28) (.bool false) ?_
 refine w_nil (xn_then (w_condF rfl (w_skip (xn_blk (xn_then (w_seq (w_reg ?_)))))))
 refine wl_build 35 [] [] (.agg #[.int .i64 0, .bool false, .int .u64 0, .int .u64 0, .int .u64 0, .int .u64 0, .int .i64 0, .bool false, .string ⟨#[]⟩, .int .i64 0]) rfl rfl (by kernel_rfl) rfl ?_
 refine wl_m (.tmp 1) (.string s) ?_
 refine wl_call 18 [(.tmp 43)] _ [.string s] (.bool (symb s)) rfl rfl (fun _ _ => by kernel_rfl) (wk (sym_n s _)) rfl ?_
 intro w2 hq
 replace Q1 := Q1.mo hq
 replace M := M.trans hq
 clear hq
 refine wl_st 35 (.tmp 4) (.tmp 42) k1 0 #[.int .i64 0, .bool false, .int .u64 0, .int .u64 0, .int .u64 0, .int .u64 0, .int .i64 0, .bool false, .string ⟨#[]⟩, .int .i64 0] _ [.int .i64 0, .bool false, .int .u64 0, .int .u64 0, .int .u64 0, .int .u64 0, .int .i64 0, .bool false, .string ⟨#[]⟩, .int .i64 0] Q1 rfl rfl rfl rfl rfl sz35 rfl rfl rfl ?_
 intro w3 hS Qn
 replace Q1 := Qn
 clear Qn
 replace M := hS.mo _ N_k1 M
 clear hS
 refine wl_m (.tmp 44) (.bool (symb s)) ?_
 refine w_nil (xn_then (w_ret ?_))
 exact w_ret2 _ _ (.agg #[.int .i64 0, .bool false, .int .u64 0, .int .u64 0, .int .u64 0, .int .u64 0, .int .i64 0, .bool false, .string ⟨#[]⟩, .int .i64 0]) (.bool (symb s)) rfl ⟨k1, rfl, (run_row Q1 35 0 10 _ rfl Tryd.underlying35 rfl sz35)⟩ rfl ⟨rfl, M⟩
end Go.Proofs.YthgknegocfhdbaaDoor.V
/-
 lex.Next, kind by kind.
-/
namespace Go.Proofs.YthgknegocfhdbaaDoor.V
open Go.RowKit
theorem lp4 {i j q u : Nat} {a b c d e f g h : Value} (k1 : a = b) (k2 : c = d) (k3 : e = f) (k4 : g = h) : [(i, a), (j, c), (q, e), (u, g)] = [(i, b), (j, d), (q, f), (u, h)] := by rw [k1, k2, k3, k4]
theorem nme_rg (s : ByteArray) : ∀ (d k : Nat), d = s.size - k → k ≤ s.size → k ≤ nme s k ∧ nme s k ≤ s.size := by
 intro d
 induction d with
 | zero => intro k hd hk; rw [nme_end (by rw [bt_out (by omega)]; rfl)]; omega
 | succ d ih =>
  intro k hd hk
  cases h : (ltr (bt s k) || dgt (bt s k)) with
  | true => rw [nme_on h]; have := ih (k + 1) (by omega) (by omega); omega
  | false => rw [nme_end h]; omega
theorem cl_rg (s : ByteArray) : ∀ (d k : Nat), s.size - k ≤ d → ∀ e, cl s k = some e → k < e ∧ e ≤ s.size := by
 intro d
 induction d with
 | zero => intro k hd e he; rw [cl_end (by omega)] at he; cases he
 | succ d ih =>
  intro k hd e he
  by_cases h : k < s.size
  ·cases h2 : (bt s k == 92) with
   | true => rw [cl_e h h2] at he; have := ih (k + 2) (by omega) e he; omega
   | false =>
    cases h3 : (bt s k == 34) with
    | true => rw [cl_q h h2 h3] at he; cases he; omega
    | false => rw [cl_o h h2 h3] at he; have := ih (k + 1) (by omega) e he; omega
  ·rw [cl_end h] at he; cases he
theorem rch_rg {s : ByteArray} {k : Nat} (hk : k < s.size) : k ≤ (rch s k).2 ∧ (rch s k).2 ≤ s.size := by
 unfold rch
 split
 ·have := nme_rg s _ (k + 1) rfl (by omega)
  show k ≤ nme s (k + 1) ∧ nme s (k + 1) ≤ s.size
  omega
 ·split
  ·have := pfx_le (s.extract k s.size)
   rw [ByteArray.size_extract, Nat.min_self] at this
   show k ≤ k + pfx (s.extract k s.size) ∧ k + pfx (s.extract k s.size) ≤ s.size
   omega
  ·split
   ·show k ≤ qte s k k ∧ qte s k k ≤ s.size
    rw [qte_cl s k _ k (Nat.le_refl _)]
    cases h : cl s (k + 1) with
    | none => show k ≤ k ∧ k ≤ s.size; omega
    | some e => have := cl_rg s _ (k + 1) (Nat.le_refl _) e h; show k ≤ e ∧ e ≤ s.size; omega
   ·show k ≤ (if k + 2 ≤ s.size ∧ symb (s.extract k (k + 2)) = true then k + 2 else k + 1) ∧ (if k + 2 ≤ s.size ∧ symb (s.extract k (k + 2)) = true then k + 2 else k + 1) ≤ s.size
    split <;> omega
theorem reach_c {s : ByteArray} {k K e : Nat} (hr : rch s k = (K, e)) (w : World) (hs : s.size ≤ maxLen - 8) (hk : k < s.size) : Calls Tryd.prog 27 #[.string s, .int .i64 ((k : Nat) : Int)] w fun e' w' => e' = .returned (.tuple #[.int .i64 ((K : Nat) : Int), .int .i64 ((e : Nat) : Int)]) ∧ Mw w w' := by
 have h := wk (reach_n s k w hs hk)
 rw [hr] at h; exact h
theorem next_1t (s : ByteArray) (k e : Nat) (w : World) (hs : s.size ≤ 140737488355328) (hk : k < s.size) (hr : rch s k = (1, e)) (hm : ∀ w, Calls Tryd.prog 28 #[.int .i64 ((1 : Nat) : Int), .string (s.extract k e)] w fun e' w' => e' = .returned (.tuple #[.agg #[.int .i64 0, .bool false, .int .u64 0, .int .u64 0, .int .u64 0, .int .u64 0, .int .i64 0, .bool false, .string ⟨#[]⟩, .int .i64 0], .bool true]) ∧ Mw w w') : Calls Tryd.prog 12 #[.string s, .int .i64 ((k : Nat) : Int)] w fun e' w' => e' = .returned (.tuple #[.agg #[.int .i64 ((1 : Nat) : Int), .string (s.extract k e), .int .i64 0, .bool false, .int .u64 0, .int .u64 0, .int .u64 0, .int .u64 0, .int .i64 0, .bool false, .string ⟨#[]⟩, .int .i64 0, .int .i64 ((k : Nat) : Int)], .int .i64 0]) ∧ Mw w w' := by
 have hrg := rch_rg hk
 rw [hr] at hrg
 simp only at hrg
 refine w_enter 45 Tryd.func12 Tryd.ntmps12 rfl rfl ?_
 have M : Mw w w := Mw.refl _
 refine w_seq (w_reg ?_)
 refine wl_alloc 37 #[.int .i64 0, .string ⟨#[]⟩, .int .i64 0, .bool false, .int .u64 0, .int .u64 0, .int .u64 0, .int .u64 0, .int .i64 0, .bool false, .string ⟨#[]⟩, .int .i64 0, .int .i64 0] rfl (fun _ => by kernel_rfl) rfl ?_
 intro k1 w1 hk hz hq Q1
 have N_k1 : w.heap.size ≤ k1 := by have := M.size; omega
 replace M := M.trans hq
 clear hk hz hq
 refine wl_m (.const (.int .i64 (0))) (.int .i64 (0)) ?_
 refine w_nil (xn_then (w_seq (w_seq (w_reg ?_))))
 refine wl_m (.tmp 1) (.int .i64 ((k : Nat) : Int)) ?_
 refine wl_b .lss 3 (.tmp 10) (.const (.int .i64 (0))) (.int .i64 ((k : Nat) : Int)) (.int .i64 (0)) (.bool false) (lt3_run (r := false) (decide_eq_false (by omega)) _ _ _) ?_
 refine wl_m (.tmp 11) (.bool false) ?_
 refine wl_m (.tmp 1) (.int .i64 ((k : Nat) : Int)) ?_
 refine wl_m (.tmp 0) (.string s) ?_
 refine wl_val (.int .i64 ((s.size : Nat) : Int)) (len_s _ _ s (by exact rfl) _ _ _ _ _ _) rfl ?_
 refine wl_b .geq 3 (.tmp 13) (.tmp 15) (.int .i64 ((k : Nat) : Int)) (.int .i64 ((s.size : Nat) : Int)) (.bool false) (geN (decide_eq_false (by omega)) _ _ _) ?_
 refine wl_pick (.tmp 12) (.const (.bool true)) (.tmp 16) false (.bool false) (fun _ => rfl) rfl rfl rfl ?_
 refine w_nil (xn_then (w_condF rfl (w_skip (xn_then (w_seq (w_reg ?_))))))
 refine wl_m (.tmp 0) (.string s) ?_
 refine wl_m (.tmp 1) (.int .i64 ((k : Nat) : Int)) ?_
 refine wl_call 27 [(.tmp 20), (.tmp 21)] _ [.string s, .int .i64 ((k : Nat) : Int)] (.tuple #[.int .i64 ((1 : Nat) : Int), .int .i64 ((e : Nat) : Int)]) rfl rfl (fun _ _ => by kernel_rfl) (reach_c hr _ (by unfold maxLen; omega) hk) rfl ?_
 intro w2 hq
 replace Q1 := Q1.mo hq
 replace M := M.trans hq
 clear hq
 refine wl_m (.tmp 22) (.tuple #[.int .i64 ((1 : Nat) : Int), .int .i64 ((e : Nat) : Int)]) ?_
 refine wl_un (fun v => Instr.extract v 0) (.tmp 19) (.tuple #[.int .i64 ((1 : Nat) : Int), .int .i64 ((e : Nat) : Int)]) (.int .i64 ((1 : Nat) : Int)) (fun _ => rfl) rfl (by kernel_rfl) rfl ?_
 refine wl_un (fun v => Instr.extract v 1) (.tmp 19) (.tuple #[.int .i64 ((1 : Nat) : Int), .int .i64 ((e : Nat) : Int)]) (.int .i64 ((e : Nat) : Int)) (fun _ => rfl) rfl (by kernel_rfl) rfl ?_
 refine wl_m (.tmp 23) (.int .i64 ((1 : Nat) : Int)) ?_
 refine wl_m (.tmp 24) (.int .i64 ((e : Nat) : Int)) ?_
 refine w_nil (xn_then (w_seq (w_reg ?_)))
 refine wl_m (.tmp 6) (.int .i64 ((1 : Nat) : Int)) ?_
 refine wl_m (.tmp 0) (.string s) ?_
 refine wl_m (.tmp 1) (.int .i64 ((k : Nat) : Int)) ?_
 refine wl_m (.tmp 7) (.int .i64 ((e : Nat) : Int)) ?_
 refine wl_val (.string (s.extract k e)) (mid_run _ _ _ _ s (k) (e) (by exact rfl) (by exact rfl) (by exact rfl) (by omega) (by omega) _ _ _ _ _ _) rfl ?_
 refine wl_call 28 [(.tmp 26), (.tmp 30)] _ [.int .i64 ((1 : Nat) : Int), .string (s.extract k e)] (.tuple #[.agg #[.int .i64 0, .bool false, .int .u64 0, .int .u64 0, .int .u64 0, .int .u64 0, .int .i64 0, .bool false, .string ⟨#[]⟩, .int .i64 0], .bool true]) rfl rfl (fun _ _ => by kernel_rfl) (hm _) rfl ?_
 intro w3 hq
 replace Q1 := Q1.mo hq
 replace M := M.trans hq
 clear hq
 refine wl_m (.tmp 31) (.tuple #[.agg #[.int .i64 0, .bool false, .int .u64 0, .int .u64 0, .int .u64 0, .int .u64 0, .int .i64 0, .bool false, .string ⟨#[]⟩, .int .i64 0], .bool true]) ?_
 refine wl_un (fun v => Instr.extract v 0) (.tmp 25) (.tuple #[.agg #[.int .i64 0, .bool false, .int .u64 0, .int .u64 0, .int .u64 0, .int .u64 0, .int .i64 0, .bool false, .string ⟨#[]⟩, .int .i64 0], .bool true]) (.agg #[.int .i64 0, .bool false, .int .u64 0, .int .u64 0, .int .u64 0, .int .u64 0, .int .i64 0, .bool false, .string ⟨#[]⟩, .int .i64 0]) (fun _ => rfl) rfl (by kernel_rfl) rfl ?_
 refine wl_un (fun v => Instr.extract v 1) (.tmp 25) (.tuple #[.agg #[.int .i64 0, .bool false, .int .u64 0, .int .u64 0, .int .u64 0, .int .u64 0, .int .i64 0, .bool false, .string ⟨#[]⟩, .int .i64 0], .bool true]) (.bool true) (fun _ => rfl) rfl (by kernel_rfl) rfl ?_
 refine wl_alloc 35 #[.int .i64 0, .bool false, .int .u64 0, .int .u64 0, .int .u64 0, .int .u64 0, .int .i64 0, .bool false, .string ⟨#[]⟩, .int .i64 0] rfl (fun _ => by kernel_rfl) rfl ?_
 intro k2 w4 hk hz hq Q2
 have ne_k1_k2 : k1 ≠ k2 := by have := Q1.lt; omega
 have N_k2 : w.heap.size ≤ k2 := by have := M.size; omega
 replace Q1 := Q1.mo hq
 replace M := M.trans hq
 clear hk hz hq
 refine wl_st 35 (.tmp 8) (.tmp 32) k2 0 #[.int .i64 0, .bool false, .int .u64 0, .int .u64 0, .int .u64 0, .int .u64 0, .int .i64 0, .bool false, .string ⟨#[]⟩, .int .i64 0] _ [.int .i64 0, .bool false, .int .u64 0, .int .u64 0, .int .u64 0, .int .u64 0, .int .i64 0, .bool false, .string ⟨#[]⟩, .int .i64 0] Q2 rfl rfl rfl rfl rfl sz35 rfl rfl rfl ?_
 intro w5 hS Qn
 replace Q2 := Qn
 clear Qn
 replace Q1 := hS.other _ _ ne_k1_k2 Q1
 replace M := hS.mo _ N_k2 M
 clear hS
 refine wl_m (.tmp 33) (.bool true) ?_
 refine w_nil (xn_then (w_seq (w_seq (w_reg ?_))))
 refine wl_m (.tmp 9) (.bool true) ?_
 refine wl_un (fun v => Op.unary .not v) (.tmp 34) (.bool true) (.bool false) (fun _ => rfl) rfl (by kernel_rfl) rfl ?_
 refine w_nil (xn_then (w_condF rfl (w_skip (xn_then (w_seq ?_)))))
 refine w_any 8 [.inl (.int .i64 ((1 : Nat) : Int)), .inl (.string s), .inl (.int .i64 ((k : Nat) : Int)), .inl (.int .i64 ((e : Nat) : Int)), .inl (.string (s.extract k e)), .inl (.agg #[.int .i64 0, .bool false, .int .u64 0, .int .u64 0, .int .u64 0, .int .u64 0, .int .i64 0, .bool false, .string ⟨#[]⟩, .int .i64 0]), .inl (.int .i64 ((k : Nat) : Int)), .inl (.agg #[.int .i64 ((1 : Nat) : Int), .string (s.extract k e), .int .i64 0, .bool false, .int .u64 0, .int .u64 0, .int .u64 0, .int .u64 0, .int .i64 0, .bool false, .string ⟨#[]⟩, .int .i64 0, .int .i64 ((k : Nat) : Int)])] [] (by kernel_rfl) (by kernel_rfl) (by kernel_rfl) (by kernel_rfl) rfl (by kernel_rfl) (by kernel_rfl) late_nil ?_ ?_ ?_
 ·exact Ds.none rfl
 ·refine ea_cons ?_ (ea_cons ?_ (ea_cons ?_ (ea_cons ?_ (ea_cons ?_ (ea_cons ?_ (ea_cons ?_ (ea_cons ?_ (ea_nil))))))))
  ·exact og_eq _ rfl (fun f wf hq hd K hK => go_run rfl (wo_mv (.tmp 6) (.int .i64 ((1 : Nat) : Int)) (fun _ => rfl) rfl (hK _ (Mw.refl _))))
  ·exact og_eq _ rfl (fun f wf hq hd K hK => go_run rfl (wo_mv (.tmp 0) (.string s) (fun _ => rfl) rfl (hK _ (Mw.refl _))))
  ·exact og_eq _ rfl (fun f wf hq hd K hK => go_run rfl (wo_mv (.tmp 1) (.int .i64 ((k : Nat) : Int)) (fun _ => rfl) rfl (hK _ (Mw.refl _))))
  ·exact og_eq _ rfl (fun f wf hq hd K hK => go_run rfl (wo_mv (.tmp 7) (.int .i64 ((e : Nat) : Int)) (fun _ => rfl) rfl (hK _ (Mw.refl _))))
  ·exact og_eq _ rfl (fun f wf hq hd K hK => go_run rfl (wo_val (.string (s.extract k e)) (mid_run _ _ _ _ s (k) (e) (by exact (hd 1 rfl)) (by exact (hd 2 rfl)) (by exact (hd 3 rfl)) (by omega) (by omega) _ _ _ _ _ _) (hK _ (Mw.refl _))))
  ·exact og_eq _ rfl (fun f wf hq hd K hK => have Q2 := Q2.mo hq; go_run rfl (wo_load 35 (.tmp 8) (pt k2 0) (.agg #[.int .i64 0, .bool false, .int .u64 0, .int .u64 0, .int .u64 0, .int .u64 0, .int .i64 0, .bool false, .string ⟨#[]⟩, .int .i64 0]) rfl rfl (run_row Q2 35 0 10 _ rfl Tryd.underlying35 rfl sz35) (hK _ (Mw.refl _))))
  ·exact og_eq _ rfl (fun f wf hq hd K hK => go_run rfl (wo_mv (.tmp 1) (.int .i64 ((k : Nat) : Int)) (fun _ => rfl) rfl (hK _ (Mw.refl _))))
  ·exact og_eq _ rfl (fun f wf hq hd K hK => go_run rfl (wo_build 37 [(0, (.tmp 37)), (1, (.tmp 41)), (2, (.tmp 42)), (3, (.tmp 43))] [(0, .int .i64 ((1 : Nat) : Int)), (1, .string (s.extract k e)), (2, .agg #[.int .i64 0, .bool false, .int .u64 0, .int .u64 0, .int .u64 0, .int .u64 0, .int .i64 0, .bool false, .string ⟨#[]⟩, .int .i64 0]), (3, .int .i64 ((k : Nat) : Int))] (.agg #[.int .i64 ((1 : Nat) : Int), .string (s.extract k e), .int .i64 0, .bool false, .int .u64 0, .int .u64 0, .int .u64 0, .int .u64 0, .int .i64 0, .bool false, .string ⟨#[]⟩, .int .i64 0, .int .i64 ((k : Nat) : Int)]) rfl (lp4 (hd 0 rfl) (hd 4 rfl) (hd 5 rfl) (hd 6 rfl)) (by kernel_rfl) (hK _ (Mw.refl _))))
 intro kf6 w6 hq hR hne
 replace Q1 := Q1.mo hq
 replace Q2 := Q2.mo hq
 replace M := M.trans hq
 clear hq hR hne
 refine wl_st 37 (.tmp 4) (.tmp 44) k1 0 #[.int .i64 ((1 : Nat) : Int), .string (s.extract k e), .int .i64 0, .bool false, .int .u64 0, .int .u64 0, .int .u64 0, .int .u64 0, .int .i64 0, .bool false, .string ⟨#[]⟩, .int .i64 0, .int .i64 ((k : Nat) : Int)] _ [.int .i64 ((1 : Nat) : Int), .string (s.extract k e), .int .i64 0, .bool false, .int .u64 0, .int .u64 0, .int .u64 0, .int .u64 0, .int .i64 0, .bool false, .string ⟨#[]⟩, .int .i64 0, .int .i64 ((k : Nat) : Int)] Q1 rfl rfl rfl rfl rfl sz37 rfl rfl rfl ?_
 intro w7 hS Qn
 replace Q1 := Qn
 clear Qn
 replace Q2 := hS.other _ _ ne_k1_k2.symm Q2
 replace M := hS.mo _ N_k1 M
 clear hS
 refine wl_m (.const (.int .i64 (0))) (.int .i64 (0)) ?_
 refine w_nil (xn_then (w_ret ?_))
 exact w_ret2 _ _ (.agg #[.int .i64 ((1 : Nat) : Int), .string (s.extract k e), .int .i64 0, .bool false, .int .u64 0, .int .u64 0, .int .u64 0, .int .u64 0, .int .i64 0, .bool false, .string ⟨#[]⟩, .int .i64 0, .int .i64 ((k : Nat) : Int)]) (.int .i64 (0)) rfl ⟨k1, rfl, (run_row Q1 37 0 13 _ rfl Tryd.underlying37 rfl sz37)⟩ rfl ⟨rfl, M⟩
theorem next_2t (s : ByteArray) (k e : Nat) (b : Bool) (N : Int) (kk : Nat) (w : World) (hs : s.size ≤ 140737488355328) (hk : k < s.size) (hr : rch s k = (2, e)) (hm : ∀ w, Calls Tryd.prog 28 #[.int .i64 ((2 : Nat) : Int), .string (s.extract k e)] w fun e' w' => e' = .returned (.tuple #[.agg #[.int .i64 1, .bool b, .int .u64 (l0 (N)), .int .u64 (l1 (N)), .int .u64 (l2 (N)), .int .u64 (l3 (N)), .int .i64 ((kk : Int)), .bool false, .string ⟨#[]⟩, .int .i64 0], .bool true]) ∧ Mw w w') : Calls Tryd.prog 12 #[.string s, .int .i64 ((k : Nat) : Int)] w fun e' w' => e' = .returned (.tuple #[.agg #[.int .i64 ((2 : Nat) : Int), .string (s.extract k e), .int .i64 1, .bool b, .int .u64 (l0 (N)), .int .u64 (l1 (N)), .int .u64 (l2 (N)), .int .u64 (l3 (N)), .int .i64 ((kk : Int)), .bool false, .string ⟨#[]⟩, .int .i64 0, .int .i64 ((k : Nat) : Int)], .int .i64 0]) ∧ Mw w w' := by
 have hrg := rch_rg hk
 rw [hr] at hrg
 simp only at hrg
 refine w_enter 45 Tryd.func12 Tryd.ntmps12 rfl rfl ?_
 have M : Mw w w := Mw.refl _
 refine w_seq (w_reg ?_)
 refine wl_alloc 37 #[.int .i64 0, .string ⟨#[]⟩, .int .i64 0, .bool false, .int .u64 0, .int .u64 0, .int .u64 0, .int .u64 0, .int .i64 0, .bool false, .string ⟨#[]⟩, .int .i64 0, .int .i64 0] rfl (fun _ => by kernel_rfl) rfl ?_
 intro k1 w1 hk hz hq Q1
 have N_k1 : w.heap.size ≤ k1 := by have := M.size; omega
 replace M := M.trans hq
 clear hk hz hq
 refine wl_m (.const (.int .i64 (0))) (.int .i64 (0)) ?_
 refine w_nil (xn_then (w_seq (w_seq (w_reg ?_))))
 refine wl_m (.tmp 1) (.int .i64 ((k : Nat) : Int)) ?_
 refine wl_b .lss 3 (.tmp 10) (.const (.int .i64 (0))) (.int .i64 ((k : Nat) : Int)) (.int .i64 (0)) (.bool false) (lt3_run (r := false) (decide_eq_false (by omega)) _ _ _) ?_
 refine wl_m (.tmp 11) (.bool false) ?_
 refine wl_m (.tmp 1) (.int .i64 ((k : Nat) : Int)) ?_
 refine wl_m (.tmp 0) (.string s) ?_
 refine wl_val (.int .i64 ((s.size : Nat) : Int)) (len_s _ _ s (by exact rfl) _ _ _ _ _ _) rfl ?_
 refine wl_b .geq 3 (.tmp 13) (.tmp 15) (.int .i64 ((k : Nat) : Int)) (.int .i64 ((s.size : Nat) : Int)) (.bool false) (geN (decide_eq_false (by omega)) _ _ _) ?_
 refine wl_pick (.tmp 12) (.const (.bool true)) (.tmp 16) false (.bool false) (fun _ => rfl) rfl rfl rfl ?_
 refine w_nil (xn_then (w_condF rfl (w_skip (xn_then (w_seq (w_reg ?_))))))
 refine wl_m (.tmp 0) (.string s) ?_
 refine wl_m (.tmp 1) (.int .i64 ((k : Nat) : Int)) ?_
 refine wl_call 27 [(.tmp 20), (.tmp 21)] _ [.string s, .int .i64 ((k : Nat) : Int)] (.tuple #[.int .i64 ((2 : Nat) : Int), .int .i64 ((e : Nat) : Int)]) rfl rfl (fun _ _ => by kernel_rfl) (reach_c hr _ (by unfold maxLen; omega) hk) rfl ?_
 intro w2 hq
 replace Q1 := Q1.mo hq
 replace M := M.trans hq
 clear hq
 refine wl_m (.tmp 22) (.tuple #[.int .i64 ((2 : Nat) : Int), .int .i64 ((e : Nat) : Int)]) ?_
 refine wl_un (fun v => Instr.extract v 0) (.tmp 19) (.tuple #[.int .i64 ((2 : Nat) : Int), .int .i64 ((e : Nat) : Int)]) (.int .i64 ((2 : Nat) : Int)) (fun _ => rfl) rfl (by kernel_rfl) rfl ?_
 refine wl_un (fun v => Instr.extract v 1) (.tmp 19) (.tuple #[.int .i64 ((2 : Nat) : Int), .int .i64 ((e : Nat) : Int)]) (.int .i64 ((e : Nat) : Int)) (fun _ => rfl) rfl (by kernel_rfl) rfl ?_
 refine wl_m (.tmp 23) (.int .i64 ((2 : Nat) : Int)) ?_
 refine wl_m (.tmp 24) (.int .i64 ((e : Nat) : Int)) ?_
 refine w_nil (xn_then (w_seq (w_reg ?_)))
 refine wl_m (.tmp 6) (.int .i64 ((2 : Nat) : Int)) ?_
 refine wl_m (.tmp 0) (.string s) ?_
 refine wl_m (.tmp 1) (.int .i64 ((k : Nat) : Int)) ?_
 refine wl_m (.tmp 7) (.int .i64 ((e : Nat) : Int)) ?_
 refine wl_val (.string (s.extract k e)) (mid_run _ _ _ _ s (k) (e) (by exact rfl) (by exact rfl) (by exact rfl) (by omega) (by omega) _ _ _ _ _ _) rfl ?_
 refine wl_call 28 [(.tmp 26), (.tmp 30)] _ [.int .i64 ((2 : Nat) : Int), .string (s.extract k e)] (.tuple #[.agg #[.int .i64 1, .bool b, .int .u64 (l0 (N)), .int .u64 (l1 (N)), .int .u64 (l2 (N)), .int .u64 (l3 (N)), .int .i64 ((kk : Int)), .bool false, .string ⟨#[]⟩, .int .i64 0], .bool true]) rfl rfl (fun _ _ => by kernel_rfl) (hm _) rfl ?_
 intro w3 hq
 replace Q1 := Q1.mo hq
 replace M := M.trans hq
 clear hq
 refine wl_m (.tmp 31) (.tuple #[.agg #[.int .i64 1, .bool b, .int .u64 (l0 (N)), .int .u64 (l1 (N)), .int .u64 (l2 (N)), .int .u64 (l3 (N)), .int .i64 ((kk : Int)), .bool false, .string ⟨#[]⟩, .int .i64 0], .bool true]) ?_
 refine wl_un (fun v => Instr.extract v 0) (.tmp 25) (.tuple #[.agg #[.int .i64 1, .bool b, .int .u64 (l0 (N)), .int .u64 (l1 (N)), .int .u64 (l2 (N)), .int .u64 (l3 (N)), .int .i64 ((kk : Int)), .bool false, .string ⟨#[]⟩, .int .i64 0], .bool true]) (.agg #[.int .i64 1, .bool b, .int .u64 (l0 (N)), .int .u64 (l1 (N)), .int .u64 (l2 (N)), .int .u64 (l3 (N)), .int .i64 ((kk : Int)), .bool false, .string ⟨#[]⟩, .int .i64 0]) (fun _ => rfl) rfl (by kernel_rfl) rfl ?_
 refine wl_un (fun v => Instr.extract v 1) (.tmp 25) (.tuple #[.agg #[.int .i64 1, .bool b, .int .u64 (l0 (N)), .int .u64 (l1 (N)), .int .u64 (l2 (N)), .int .u64 (l3 (N)), .int .i64 ((kk : Int)), .bool false, .string ⟨#[]⟩, .int .i64 0], .bool true]) (.bool true) (fun _ => rfl) rfl (by kernel_rfl) rfl ?_
 refine wl_alloc 35 #[.int .i64 0, .bool false, .int .u64 0, .int .u64 0, .int .u64 0, .int .u64 0, .int .i64 0, .bool false, .string ⟨#[]⟩, .int .i64 0] rfl (fun _ => by kernel_rfl) rfl ?_
 intro k2 w4 hk hz hq Q2
 have ne_k1_k2 : k1 ≠ k2 := by have := Q1.lt; omega
 have N_k2 : w.heap.size ≤ k2 := by have := M.size; omega
 replace Q1 := Q1.mo hq
 replace M := M.trans hq
 clear hk hz hq
 refine wl_st 35 (.tmp 8) (.tmp 32) k2 0 #[.int .i64 1, .bool b, .int .u64 (l0 (N)), .int .u64 (l1 (N)), .int .u64 (l2 (N)), .int .u64 (l3 (N)), .int .i64 ((kk : Int)), .bool false, .string ⟨#[]⟩, .int .i64 0] _ [.int .i64 1, .bool b, .int .u64 (l0 (N)), .int .u64 (l1 (N)), .int .u64 (l2 (N)), .int .u64 (l3 (N)), .int .i64 ((kk : Int)), .bool false, .string ⟨#[]⟩, .int .i64 0] Q2 rfl rfl rfl rfl rfl sz35 rfl rfl rfl ?_
 intro w5 hS Qn
 replace Q2 := Qn
 clear Qn
 replace Q1 := hS.other _ _ ne_k1_k2 Q1
 replace M := hS.mo _ N_k2 M
 clear hS
 refine wl_m (.tmp 33) (.bool true) ?_
 refine w_nil (xn_then (w_seq (w_seq (w_reg ?_))))
 refine wl_m (.tmp 9) (.bool true) ?_
 refine wl_un (fun v => Op.unary .not v) (.tmp 34) (.bool true) (.bool false) (fun _ => rfl) rfl (by kernel_rfl) rfl ?_
 refine w_nil (xn_then (w_condF rfl (w_skip (xn_then (w_seq ?_)))))
 refine w_any 8 [.inl (.int .i64 ((2 : Nat) : Int)), .inl (.string s), .inl (.int .i64 ((k : Nat) : Int)), .inl (.int .i64 ((e : Nat) : Int)), .inl (.string (s.extract k e)), .inl (.agg #[.int .i64 1, .bool b, .int .u64 (l0 (N)), .int .u64 (l1 (N)), .int .u64 (l2 (N)), .int .u64 (l3 (N)), .int .i64 ((kk : Int)), .bool false, .string ⟨#[]⟩, .int .i64 0]), .inl (.int .i64 ((k : Nat) : Int)), .inl (.agg #[.int .i64 ((2 : Nat) : Int), .string (s.extract k e), .int .i64 1, .bool b, .int .u64 (l0 (N)), .int .u64 (l1 (N)), .int .u64 (l2 (N)), .int .u64 (l3 (N)), .int .i64 ((kk : Int)), .bool false, .string ⟨#[]⟩, .int .i64 0, .int .i64 ((k : Nat) : Int)])] [] (by kernel_rfl) (by kernel_rfl) (by kernel_rfl) (by kernel_rfl) rfl (by kernel_rfl) (by kernel_rfl) late_nil ?_ ?_ ?_
 ·exact Ds.none rfl
 ·refine ea_cons ?_ (ea_cons ?_ (ea_cons ?_ (ea_cons ?_ (ea_cons ?_ (ea_cons ?_ (ea_cons ?_ (ea_cons ?_ (ea_nil))))))))
  ·exact og_eq _ rfl (fun f wf hq hd K hK => go_run rfl (wo_mv (.tmp 6) (.int .i64 ((2 : Nat) : Int)) (fun _ => rfl) rfl (hK _ (Mw.refl _))))
  ·exact og_eq _ rfl (fun f wf hq hd K hK => go_run rfl (wo_mv (.tmp 0) (.string s) (fun _ => rfl) rfl (hK _ (Mw.refl _))))
  ·exact og_eq _ rfl (fun f wf hq hd K hK => go_run rfl (wo_mv (.tmp 1) (.int .i64 ((k : Nat) : Int)) (fun _ => rfl) rfl (hK _ (Mw.refl _))))
  ·exact og_eq _ rfl (fun f wf hq hd K hK => go_run rfl (wo_mv (.tmp 7) (.int .i64 ((e : Nat) : Int)) (fun _ => rfl) rfl (hK _ (Mw.refl _))))
  ·exact og_eq _ rfl (fun f wf hq hd K hK => go_run rfl (wo_val (.string (s.extract k e)) (mid_run _ _ _ _ s (k) (e) (by exact (hd 1 rfl)) (by exact (hd 2 rfl)) (by exact (hd 3 rfl)) (by omega) (by omega) _ _ _ _ _ _) (hK _ (Mw.refl _))))
  ·exact og_eq _ rfl (fun f wf hq hd K hK => have Q2 := Q2.mo hq; go_run rfl (wo_load 35 (.tmp 8) (pt k2 0) (.agg #[.int .i64 1, .bool b, .int .u64 (l0 (N)), .int .u64 (l1 (N)), .int .u64 (l2 (N)), .int .u64 (l3 (N)), .int .i64 ((kk : Int)), .bool false, .string ⟨#[]⟩, .int .i64 0]) rfl rfl (run_row Q2 35 0 10 _ rfl Tryd.underlying35 rfl sz35) (hK _ (Mw.refl _))))
  ·exact og_eq _ rfl (fun f wf hq hd K hK => go_run rfl (wo_mv (.tmp 1) (.int .i64 ((k : Nat) : Int)) (fun _ => rfl) rfl (hK _ (Mw.refl _))))
  ·exact og_eq _ rfl (fun f wf hq hd K hK => go_run rfl (wo_build 37 [(0, (.tmp 37)), (1, (.tmp 41)), (2, (.tmp 42)), (3, (.tmp 43))] [(0, .int .i64 ((2 : Nat) : Int)), (1, .string (s.extract k e)), (2, .agg #[.int .i64 1, .bool b, .int .u64 (l0 (N)), .int .u64 (l1 (N)), .int .u64 (l2 (N)), .int .u64 (l3 (N)), .int .i64 ((kk : Int)), .bool false, .string ⟨#[]⟩, .int .i64 0]), (3, .int .i64 ((k : Nat) : Int))] (.agg #[.int .i64 ((2 : Nat) : Int), .string (s.extract k e), .int .i64 1, .bool b, .int .u64 (l0 (N)), .int .u64 (l1 (N)), .int .u64 (l2 (N)), .int .u64 (l3 (N)), .int .i64 ((kk : Int)), .bool false, .string ⟨#[]⟩, .int .i64 0, .int .i64 ((k : Nat) : Int)]) rfl (lp4 (hd 0 rfl) (hd 4 rfl) (hd 5 rfl) (hd 6 rfl)) (by kernel_rfl) (hK _ (Mw.refl _))))
 intro kf6 w6 hq hR hne
 replace Q1 := Q1.mo hq
 replace Q2 := Q2.mo hq
 replace M := M.trans hq
 clear hq hR hne
 refine wl_st 37 (.tmp 4) (.tmp 44) k1 0 #[.int .i64 ((2 : Nat) : Int), .string (s.extract k e), .int .i64 1, .bool b, .int .u64 (l0 (N)), .int .u64 (l1 (N)), .int .u64 (l2 (N)), .int .u64 (l3 (N)), .int .i64 ((kk : Int)), .bool false, .string ⟨#[]⟩, .int .i64 0, .int .i64 ((k : Nat) : Int)] _ [.int .i64 ((2 : Nat) : Int), .string (s.extract k e), .int .i64 1, .bool b, .int .u64 (l0 (N)), .int .u64 (l1 (N)), .int .u64 (l2 (N)), .int .u64 (l3 (N)), .int .i64 ((kk : Int)), .bool false, .string ⟨#[]⟩, .int .i64 0, .int .i64 ((k : Nat) : Int)] Q1 rfl rfl rfl rfl rfl sz37 rfl rfl rfl ?_
 intro w7 hS Qn
 replace Q1 := Qn
 clear Qn
 replace Q2 := hS.other _ _ ne_k1_k2.symm Q2
 replace M := hS.mo _ N_k1 M
 clear hS
 refine wl_m (.const (.int .i64 (0))) (.int .i64 (0)) ?_
 refine w_nil (xn_then (w_ret ?_))
 exact w_ret2 _ _ (.agg #[.int .i64 ((2 : Nat) : Int), .string (s.extract k e), .int .i64 1, .bool b, .int .u64 (l0 (N)), .int .u64 (l1 (N)), .int .u64 (l2 (N)), .int .u64 (l3 (N)), .int .i64 ((kk : Int)), .bool false, .string ⟨#[]⟩, .int .i64 0, .int .i64 ((k : Nat) : Int)]) (.int .i64 (0)) rfl ⟨k1, rfl, (run_row Q1 37 0 13 _ rfl Tryd.underlying37 rfl sz37)⟩ rfl ⟨rfl, M⟩
theorem next_4t (s : ByteArray) (k e : Nat) (w : World) (hs : s.size ≤ 140737488355328) (hk : k < s.size) (hr : rch s k = (4, e)) (hm : ∀ w, Calls Tryd.prog 28 #[.int .i64 ((4 : Nat) : Int), .string (s.extract k e)] w fun e' w' => e' = .returned (.tuple #[.agg #[.int .i64 0, .bool false, .int .u64 0, .int .u64 0, .int .u64 0, .int .u64 0, .int .i64 0, .bool false, .string ⟨#[]⟩, .int .i64 0], .bool true]) ∧ Mw w w') : Calls Tryd.prog 12 #[.string s, .int .i64 ((k : Nat) : Int)] w fun e' w' => e' = .returned (.tuple #[.agg #[.int .i64 ((4 : Nat) : Int), .string (s.extract k e), .int .i64 0, .bool false, .int .u64 0, .int .u64 0, .int .u64 0, .int .u64 0, .int .i64 0, .bool false, .string ⟨#[]⟩, .int .i64 0, .int .i64 ((k : Nat) : Int)], .int .i64 0]) ∧ Mw w w' := by
 have hrg := rch_rg hk
 rw [hr] at hrg
 simp only at hrg
 refine w_enter 45 Tryd.func12 Tryd.ntmps12 rfl rfl ?_
 have M : Mw w w := Mw.refl _
 refine w_seq (w_reg ?_)
 refine wl_alloc 37 #[.int .i64 0, .string ⟨#[]⟩, .int .i64 0, .bool false, .int .u64 0, .int .u64 0, .int .u64 0, .int .u64 0, .int .i64 0, .bool false, .string ⟨#[]⟩, .int .i64 0, .int .i64 0] rfl (fun _ => by kernel_rfl) rfl ?_
 intro k1 w1 hk hz hq Q1
 have N_k1 : w.heap.size ≤ k1 := by have := M.size; omega
 replace M := M.trans hq
 clear hk hz hq
 refine wl_m (.const (.int .i64 (0))) (.int .i64 (0)) ?_
 refine w_nil (xn_then (w_seq (w_seq (w_reg ?_))))
 refine wl_m (.tmp 1) (.int .i64 ((k : Nat) : Int)) ?_
 refine wl_b .lss 3 (.tmp 10) (.const (.int .i64 (0))) (.int .i64 ((k : Nat) : Int)) (.int .i64 (0)) (.bool false) (lt3_run (r := false) (decide_eq_false (by omega)) _ _ _) ?_
 refine wl_m (.tmp 11) (.bool false) ?_
 refine wl_m (.tmp 1) (.int .i64 ((k : Nat) : Int)) ?_
 refine wl_m (.tmp 0) (.string s) ?_
 refine wl_val (.int .i64 ((s.size : Nat) : Int)) (len_s _ _ s (by exact rfl) _ _ _ _ _ _) rfl ?_
 refine wl_b .geq 3 (.tmp 13) (.tmp 15) (.int .i64 ((k : Nat) : Int)) (.int .i64 ((s.size : Nat) : Int)) (.bool false) (geN (decide_eq_false (by omega)) _ _ _) ?_
 refine wl_pick (.tmp 12) (.const (.bool true)) (.tmp 16) false (.bool false) (fun _ => rfl) rfl rfl rfl ?_
 refine w_nil (xn_then (w_condF rfl (w_skip (xn_then (w_seq (w_reg ?_))))))
 refine wl_m (.tmp 0) (.string s) ?_
 refine wl_m (.tmp 1) (.int .i64 ((k : Nat) : Int)) ?_
 refine wl_call 27 [(.tmp 20), (.tmp 21)] _ [.string s, .int .i64 ((k : Nat) : Int)] (.tuple #[.int .i64 ((4 : Nat) : Int), .int .i64 ((e : Nat) : Int)]) rfl rfl (fun _ _ => by kernel_rfl) (reach_c hr _ (by unfold maxLen; omega) hk) rfl ?_
 intro w2 hq
 replace Q1 := Q1.mo hq
 replace M := M.trans hq
 clear hq
 refine wl_m (.tmp 22) (.tuple #[.int .i64 ((4 : Nat) : Int), .int .i64 ((e : Nat) : Int)]) ?_
 refine wl_un (fun v => Instr.extract v 0) (.tmp 19) (.tuple #[.int .i64 ((4 : Nat) : Int), .int .i64 ((e : Nat) : Int)]) (.int .i64 ((4 : Nat) : Int)) (fun _ => rfl) rfl (by kernel_rfl) rfl ?_
 refine wl_un (fun v => Instr.extract v 1) (.tmp 19) (.tuple #[.int .i64 ((4 : Nat) : Int), .int .i64 ((e : Nat) : Int)]) (.int .i64 ((e : Nat) : Int)) (fun _ => rfl) rfl (by kernel_rfl) rfl ?_
 refine wl_m (.tmp 23) (.int .i64 ((4 : Nat) : Int)) ?_
 refine wl_m (.tmp 24) (.int .i64 ((e : Nat) : Int)) ?_
 refine w_nil (xn_then (w_seq (w_reg ?_)))
 refine wl_m (.tmp 6) (.int .i64 ((4 : Nat) : Int)) ?_
 refine wl_m (.tmp 0) (.string s) ?_
 refine wl_m (.tmp 1) (.int .i64 ((k : Nat) : Int)) ?_
 refine wl_m (.tmp 7) (.int .i64 ((e : Nat) : Int)) ?_
 refine wl_val (.string (s.extract k e)) (mid_run _ _ _ _ s (k) (e) (by exact rfl) (by exact rfl) (by exact rfl) (by omega) (by omega) _ _ _ _ _ _) rfl ?_
 refine wl_call 28 [(.tmp 26), (.tmp 30)] _ [.int .i64 ((4 : Nat) : Int), .string (s.extract k e)] (.tuple #[.agg #[.int .i64 0, .bool false, .int .u64 0, .int .u64 0, .int .u64 0, .int .u64 0, .int .i64 0, .bool false, .string ⟨#[]⟩, .int .i64 0], .bool true]) rfl rfl (fun _ _ => by kernel_rfl) (hm _) rfl ?_
 intro w3 hq
 replace Q1 := Q1.mo hq
 replace M := M.trans hq
 clear hq
 refine wl_m (.tmp 31) (.tuple #[.agg #[.int .i64 0, .bool false, .int .u64 0, .int .u64 0, .int .u64 0, .int .u64 0, .int .i64 0, .bool false, .string ⟨#[]⟩, .int .i64 0], .bool true]) ?_
 refine wl_un (fun v => Instr.extract v 0) (.tmp 25) (.tuple #[.agg #[.int .i64 0, .bool false, .int .u64 0, .int .u64 0, .int .u64 0, .int .u64 0, .int .i64 0, .bool false, .string ⟨#[]⟩, .int .i64 0], .bool true]) (.agg #[.int .i64 0, .bool false, .int .u64 0, .int .u64 0, .int .u64 0, .int .u64 0, .int .i64 0, .bool false, .string ⟨#[]⟩, .int .i64 0]) (fun _ => rfl) rfl (by kernel_rfl) rfl ?_
 refine wl_un (fun v => Instr.extract v 1) (.tmp 25) (.tuple #[.agg #[.int .i64 0, .bool false, .int .u64 0, .int .u64 0, .int .u64 0, .int .u64 0, .int .i64 0, .bool false, .string ⟨#[]⟩, .int .i64 0], .bool true]) (.bool true) (fun _ => rfl) rfl (by kernel_rfl) rfl ?_
 refine wl_alloc 35 #[.int .i64 0, .bool false, .int .u64 0, .int .u64 0, .int .u64 0, .int .u64 0, .int .i64 0, .bool false, .string ⟨#[]⟩, .int .i64 0] rfl (fun _ => by kernel_rfl) rfl ?_
 intro k2 w4 hk hz hq Q2
 have ne_k1_k2 : k1 ≠ k2 := by have := Q1.lt; omega
 have N_k2 : w.heap.size ≤ k2 := by have := M.size; omega
 replace Q1 := Q1.mo hq
 replace M := M.trans hq
 clear hk hz hq
 refine wl_st 35 (.tmp 8) (.tmp 32) k2 0 #[.int .i64 0, .bool false, .int .u64 0, .int .u64 0, .int .u64 0, .int .u64 0, .int .i64 0, .bool false, .string ⟨#[]⟩, .int .i64 0] _ [.int .i64 0, .bool false, .int .u64 0, .int .u64 0, .int .u64 0, .int .u64 0, .int .i64 0, .bool false, .string ⟨#[]⟩, .int .i64 0] Q2 rfl rfl rfl rfl rfl sz35 rfl rfl rfl ?_
 intro w5 hS Qn
 replace Q2 := Qn
 clear Qn
 replace Q1 := hS.other _ _ ne_k1_k2 Q1
 replace M := hS.mo _ N_k2 M
 clear hS
 refine wl_m (.tmp 33) (.bool true) ?_
 refine w_nil (xn_then (w_seq (w_seq (w_reg ?_))))
 refine wl_m (.tmp 9) (.bool true) ?_
 refine wl_un (fun v => Op.unary .not v) (.tmp 34) (.bool true) (.bool false) (fun _ => rfl) rfl (by kernel_rfl) rfl ?_
 refine w_nil (xn_then (w_condF rfl (w_skip (xn_then (w_seq ?_)))))
 refine w_any 8 [.inl (.int .i64 ((4 : Nat) : Int)), .inl (.string s), .inl (.int .i64 ((k : Nat) : Int)), .inl (.int .i64 ((e : Nat) : Int)), .inl (.string (s.extract k e)), .inl (.agg #[.int .i64 0, .bool false, .int .u64 0, .int .u64 0, .int .u64 0, .int .u64 0, .int .i64 0, .bool false, .string ⟨#[]⟩, .int .i64 0]), .inl (.int .i64 ((k : Nat) : Int)), .inl (.agg #[.int .i64 ((4 : Nat) : Int), .string (s.extract k e), .int .i64 0, .bool false, .int .u64 0, .int .u64 0, .int .u64 0, .int .u64 0, .int .i64 0, .bool false, .string ⟨#[]⟩, .int .i64 0, .int .i64 ((k : Nat) : Int)])] [] (by kernel_rfl) (by kernel_rfl) (by kernel_rfl) (by kernel_rfl) rfl (by kernel_rfl) (by kernel_rfl) late_nil ?_ ?_ ?_
 ·exact Ds.none rfl
 ·refine ea_cons ?_ (ea_cons ?_ (ea_cons ?_ (ea_cons ?_ (ea_cons ?_ (ea_cons ?_ (ea_cons ?_ (ea_cons ?_ (ea_nil))))))))
  ·exact og_eq _ rfl (fun f wf hq hd K hK => go_run rfl (wo_mv (.tmp 6) (.int .i64 ((4 : Nat) : Int)) (fun _ => rfl) rfl (hK _ (Mw.refl _))))
  ·exact og_eq _ rfl (fun f wf hq hd K hK => go_run rfl (wo_mv (.tmp 0) (.string s) (fun _ => rfl) rfl (hK _ (Mw.refl _))))
  ·exact og_eq _ rfl (fun f wf hq hd K hK => go_run rfl (wo_mv (.tmp 1) (.int .i64 ((k : Nat) : Int)) (fun _ => rfl) rfl (hK _ (Mw.refl _))))
  ·exact og_eq _ rfl (fun f wf hq hd K hK => go_run rfl (wo_mv (.tmp 7) (.int .i64 ((e : Nat) : Int)) (fun _ => rfl) rfl (hK _ (Mw.refl _))))
  ·exact og_eq _ rfl (fun f wf hq hd K hK => go_run rfl (wo_val (.string (s.extract k e)) (mid_run _ _ _ _ s (k) (e) (by exact (hd 1 rfl)) (by exact (hd 2 rfl)) (by exact (hd 3 rfl)) (by omega) (by omega) _ _ _ _ _ _) (hK _ (Mw.refl _))))
  ·exact og_eq _ rfl (fun f wf hq hd K hK => have Q2 := Q2.mo hq; go_run rfl (wo_load 35 (.tmp 8) (pt k2 0) (.agg #[.int .i64 0, .bool false, .int .u64 0, .int .u64 0, .int .u64 0, .int .u64 0, .int .i64 0, .bool false, .string ⟨#[]⟩, .int .i64 0]) rfl rfl (run_row Q2 35 0 10 _ rfl Tryd.underlying35 rfl sz35) (hK _ (Mw.refl _))))
  ·exact og_eq _ rfl (fun f wf hq hd K hK => go_run rfl (wo_mv (.tmp 1) (.int .i64 ((k : Nat) : Int)) (fun _ => rfl) rfl (hK _ (Mw.refl _))))
  ·exact og_eq _ rfl (fun f wf hq hd K hK => go_run rfl (wo_build 37 [(0, (.tmp 37)), (1, (.tmp 41)), (2, (.tmp 42)), (3, (.tmp 43))] [(0, .int .i64 ((4 : Nat) : Int)), (1, .string (s.extract k e)), (2, .agg #[.int .i64 0, .bool false, .int .u64 0, .int .u64 0, .int .u64 0, .int .u64 0, .int .i64 0, .bool false, .string ⟨#[]⟩, .int .i64 0]), (3, .int .i64 ((k : Nat) : Int))] (.agg #[.int .i64 ((4 : Nat) : Int), .string (s.extract k e), .int .i64 0, .bool false, .int .u64 0, .int .u64 0, .int .u64 0, .int .u64 0, .int .i64 0, .bool false, .string ⟨#[]⟩, .int .i64 0, .int .i64 ((k : Nat) : Int)]) rfl (lp4 (hd 0 rfl) (hd 4 rfl) (hd 5 rfl) (hd 6 rfl)) (by kernel_rfl) (hK _ (Mw.refl _))))
 intro kf6 w6 hq hR hne
 replace Q1 := Q1.mo hq
 replace Q2 := Q2.mo hq
 replace M := M.trans hq
 clear hq hR hne
 refine wl_st 37 (.tmp 4) (.tmp 44) k1 0 #[.int .i64 ((4 : Nat) : Int), .string (s.extract k e), .int .i64 0, .bool false, .int .u64 0, .int .u64 0, .int .u64 0, .int .u64 0, .int .i64 0, .bool false, .string ⟨#[]⟩, .int .i64 0, .int .i64 ((k : Nat) : Int)] _ [.int .i64 ((4 : Nat) : Int), .string (s.extract k e), .int .i64 0, .bool false, .int .u64 0, .int .u64 0, .int .u64 0, .int .u64 0, .int .i64 0, .bool false, .string ⟨#[]⟩, .int .i64 0, .int .i64 ((k : Nat) : Int)] Q1 rfl rfl rfl rfl rfl sz37 rfl rfl rfl ?_
 intro w7 hS Qn
 replace Q1 := Qn
 clear Qn
 replace Q2 := hS.other _ _ ne_k1_k2.symm Q2
 replace M := hS.mo _ N_k1 M
 clear hS
 refine wl_m (.const (.int .i64 (0))) (.int .i64 (0)) ?_
 refine w_nil (xn_then (w_ret ?_))
 exact w_ret2 _ _ (.agg #[.int .i64 ((4 : Nat) : Int), .string (s.extract k e), .int .i64 0, .bool false, .int .u64 0, .int .u64 0, .int .u64 0, .int .u64 0, .int .i64 0, .bool false, .string ⟨#[]⟩, .int .i64 0, .int .i64 ((k : Nat) : Int)]) (.int .i64 (0)) rfl ⟨k1, rfl, (run_row Q1 37 0 13 _ rfl Tryd.underlying37 rfl sz37)⟩ rfl ⟨rfl, M⟩
theorem next_4f (s : ByteArray) (k e : Nat) (w : World) (hs : s.size ≤ 140737488355328) (hk : k < s.size) (hr : rch s k = (4, e)) (hm : ∀ w, Calls Tryd.prog 28 #[.int .i64 ((4 : Nat) : Int), .string (s.extract k e)] w fun e' w' => e' = .returned (.tuple #[.agg #[.int .i64 0, .bool false, .int .u64 0, .int .u64 0, .int .u64 0, .int .u64 0, .int .i64 0, .bool false, .string ⟨#[]⟩, .int .i64 0], .bool false]) ∧ Mw w w') : Calls Tryd.prog 12 #[.string s, .int .i64 ((k : Nat) : Int)] w fun e' w' => e' = .returned (.tuple #[.agg #[.int .i64 0, .string ⟨#[]⟩, .int .i64 0, .bool false, .int .u64 0, .int .u64 0, .int .u64 0, .int .u64 0, .int .i64 0, .bool false, .string ⟨#[]⟩, .int .i64 0, .int .i64 0], .int .i64 70]) ∧ Mw w w' := by
 have hrg := rch_rg hk
 rw [hr] at hrg
 simp only at hrg
 refine w_enter 45 Tryd.func12 Tryd.ntmps12 rfl rfl ?_
 have M : Mw w w := Mw.refl _
 refine w_seq (w_reg ?_)
 refine wl_alloc 37 #[.int .i64 0, .string ⟨#[]⟩, .int .i64 0, .bool false, .int .u64 0, .int .u64 0, .int .u64 0, .int .u64 0, .int .i64 0, .bool false, .string ⟨#[]⟩, .int .i64 0, .int .i64 0] rfl (fun _ => by kernel_rfl) rfl ?_
 intro k1 w1 hk hz hq Q1
 have N_k1 : w.heap.size ≤ k1 := by have := M.size; omega
 replace M := M.trans hq
 clear hk hz hq
 refine wl_m (.const (.int .i64 (0))) (.int .i64 (0)) ?_
 refine w_nil (xn_then (w_seq (w_seq (w_reg ?_))))
 refine wl_m (.tmp 1) (.int .i64 ((k : Nat) : Int)) ?_
 refine wl_b .lss 3 (.tmp 10) (.const (.int .i64 (0))) (.int .i64 ((k : Nat) : Int)) (.int .i64 (0)) (.bool false) (lt3_run (r := false) (decide_eq_false (by omega)) _ _ _) ?_
 refine wl_m (.tmp 11) (.bool false) ?_
 refine wl_m (.tmp 1) (.int .i64 ((k : Nat) : Int)) ?_
 refine wl_m (.tmp 0) (.string s) ?_
 refine wl_val (.int .i64 ((s.size : Nat) : Int)) (len_s _ _ s (by exact rfl) _ _ _ _ _ _) rfl ?_
 refine wl_b .geq 3 (.tmp 13) (.tmp 15) (.int .i64 ((k : Nat) : Int)) (.int .i64 ((s.size : Nat) : Int)) (.bool false) (geN (decide_eq_false (by omega)) _ _ _) ?_
 refine wl_pick (.tmp 12) (.const (.bool true)) (.tmp 16) false (.bool false) (fun _ => rfl) rfl rfl rfl ?_
 refine w_nil (xn_then (w_condF rfl (w_skip (xn_then (w_seq (w_reg ?_))))))
 refine wl_m (.tmp 0) (.string s) ?_
 refine wl_m (.tmp 1) (.int .i64 ((k : Nat) : Int)) ?_
 refine wl_call 27 [(.tmp 20), (.tmp 21)] _ [.string s, .int .i64 ((k : Nat) : Int)] (.tuple #[.int .i64 ((4 : Nat) : Int), .int .i64 ((e : Nat) : Int)]) rfl rfl (fun _ _ => by kernel_rfl) (reach_c hr _ (by unfold maxLen; omega) hk) rfl ?_
 intro w2 hq
 replace Q1 := Q1.mo hq
 replace M := M.trans hq
 clear hq
 refine wl_m (.tmp 22) (.tuple #[.int .i64 ((4 : Nat) : Int), .int .i64 ((e : Nat) : Int)]) ?_
 refine wl_un (fun v => Instr.extract v 0) (.tmp 19) (.tuple #[.int .i64 ((4 : Nat) : Int), .int .i64 ((e : Nat) : Int)]) (.int .i64 ((4 : Nat) : Int)) (fun _ => rfl) rfl (by kernel_rfl) rfl ?_
 refine wl_un (fun v => Instr.extract v 1) (.tmp 19) (.tuple #[.int .i64 ((4 : Nat) : Int), .int .i64 ((e : Nat) : Int)]) (.int .i64 ((e : Nat) : Int)) (fun _ => rfl) rfl (by kernel_rfl) rfl ?_
 refine wl_m (.tmp 23) (.int .i64 ((4 : Nat) : Int)) ?_
 refine wl_m (.tmp 24) (.int .i64 ((e : Nat) : Int)) ?_
 refine w_nil (xn_then (w_seq (w_reg ?_)))
 refine wl_m (.tmp 6) (.int .i64 ((4 : Nat) : Int)) ?_
 refine wl_m (.tmp 0) (.string s) ?_
 refine wl_m (.tmp 1) (.int .i64 ((k : Nat) : Int)) ?_
 refine wl_m (.tmp 7) (.int .i64 ((e : Nat) : Int)) ?_
 refine wl_val (.string (s.extract k e)) (mid_run _ _ _ _ s (k) (e) (by exact rfl) (by exact rfl) (by exact rfl) (by omega) (by omega) _ _ _ _ _ _) rfl ?_
 refine wl_call 28 [(.tmp 26), (.tmp 30)] _ [.int .i64 ((4 : Nat) : Int), .string (s.extract k e)] (.tuple #[.agg #[.int .i64 0, .bool false, .int .u64 0, .int .u64 0, .int .u64 0, .int .u64 0, .int .i64 0, .bool false, .string ⟨#[]⟩, .int .i64 0], .bool false]) rfl rfl (fun _ _ => by kernel_rfl) (hm _) rfl ?_
 intro w3 hq
 replace Q1 := Q1.mo hq
 replace M := M.trans hq
 clear hq
 refine wl_m (.tmp 31) (.tuple #[.agg #[.int .i64 0, .bool false, .int .u64 0, .int .u64 0, .int .u64 0, .int .u64 0, .int .i64 0, .bool false, .string ⟨#[]⟩, .int .i64 0], .bool false]) ?_
 refine wl_un (fun v => Instr.extract v 0) (.tmp 25) (.tuple #[.agg #[.int .i64 0, .bool false, .int .u64 0, .int .u64 0, .int .u64 0, .int .u64 0, .int .i64 0, .bool false, .string ⟨#[]⟩, .int .i64 0], .bool false]) (.agg #[.int .i64 0, .bool false, .int .u64 0, .int .u64 0, .int .u64 0, .int .u64 0, .int .i64 0, .bool false, .string ⟨#[]⟩, .int .i64 0]) (fun _ => rfl) rfl (by kernel_rfl) rfl ?_
 refine wl_un (fun v => Instr.extract v 1) (.tmp 25) (.tuple #[.agg #[.int .i64 0, .bool false, .int .u64 0, .int .u64 0, .int .u64 0, .int .u64 0, .int .i64 0, .bool false, .string ⟨#[]⟩, .int .i64 0], .bool false]) (.bool false) (fun _ => rfl) rfl (by kernel_rfl) rfl ?_
 refine wl_alloc 35 #[.int .i64 0, .bool false, .int .u64 0, .int .u64 0, .int .u64 0, .int .u64 0, .int .i64 0, .bool false, .string ⟨#[]⟩, .int .i64 0] rfl (fun _ => by kernel_rfl) rfl ?_
 intro k2 w4 hk hz hq Q2
 have ne_k1_k2 : k1 ≠ k2 := by have := Q1.lt; omega
 have N_k2 : w.heap.size ≤ k2 := by have := M.size; omega
 replace Q1 := Q1.mo hq
 replace M := M.trans hq
 clear hk hz hq
 refine wl_st 35 (.tmp 8) (.tmp 32) k2 0 #[.int .i64 0, .bool false, .int .u64 0, .int .u64 0, .int .u64 0, .int .u64 0, .int .i64 0, .bool false, .string ⟨#[]⟩, .int .i64 0] _ [.int .i64 0, .bool false, .int .u64 0, .int .u64 0, .int .u64 0, .int .u64 0, .int .i64 0, .bool false, .string ⟨#[]⟩, .int .i64 0] Q2 rfl rfl rfl rfl rfl sz35 rfl rfl rfl ?_
 intro w5 hS Qn
 replace Q2 := Qn
 clear Qn
 replace Q1 := hS.other _ _ ne_k1_k2 Q1
 replace M := hS.mo _ N_k2 M
 clear hS
 refine wl_m (.tmp 33) (.bool false) ?_
 refine w_nil (xn_then (w_seq (w_seq (w_reg ?_))))
 refine wl_m (.tmp 9) (.bool false) ?_
 refine wl_un (fun v => Op.unary .not v) (.tmp 34) (.bool false) (.bool true) (fun _ => rfl) rfl (by kernel_rfl) rfl ?_
 refine w_nil (xn_then (w_condT rfl (w_seq (w_reg ?_))))
 refine wl_build 37 [] [] (.agg #[.int .i64 0, .string ⟨#[]⟩, .int .i64 0, .bool false, .int .u64 0, .int .u64 0, .int .u64 0, .int .u64 0, .int .i64 0, .bool false, .string ⟨#[]⟩, .int .i64 0, .int .i64 0]) rfl rfl (by kernel_rfl) rfl ?_
 refine wl_st 37 (.tmp 4) (.tmp 36) k1 0 #[.int .i64 0, .string ⟨#[]⟩, .int .i64 0, .bool false, .int .u64 0, .int .u64 0, .int .u64 0, .int .u64 0, .int .i64 0, .bool false, .string ⟨#[]⟩, .int .i64 0, .int .i64 0] _ [.int .i64 0, .string ⟨#[]⟩, .int .i64 0, .bool false, .int .u64 0, .int .u64 0, .int .u64 0, .int .u64 0, .int .i64 0, .bool false, .string ⟨#[]⟩, .int .i64 0, .int .i64 0] Q1 rfl rfl rfl rfl rfl sz37 rfl rfl rfl ?_
 intro w6 hS Qn
 replace Q1 := Qn
 clear Qn
 replace Q2 := hS.other _ _ ne_k1_k2.symm Q2
 replace M := hS.mo _ N_k1 M
 clear hS
 refine wl_m (.const (.int .i64 (70))) (.int .i64 (70)) ?_
 refine w_nil (xn_then (w_ret (xr_then ?_)))
 exact w_ret2 _ _ (.agg #[.int .i64 0, .string ⟨#[]⟩, .int .i64 0, .bool false, .int .u64 0, .int .u64 0, .int .u64 0, .int .u64 0, .int .i64 0, .bool false, .string ⟨#[]⟩, .int .i64 0, .int .i64 0]) (.int .i64 (70)) rfl ⟨k1, rfl, (run_row Q1 37 0 13 _ rfl Tryd.underlying37 rfl sz37)⟩ rfl ⟨rfl, M⟩
end Go.Proofs.YthgknegocfhdbaaDoor.V
/-
 Words put behind a slice of one's own.
-/
namespace Go.Proofs.YthgknegocfhdbaaDoor
open Go.RowKit
theorem inf37 : ∃ i, Tryd.prog.info? 37 = some i ∧ i.zero = some (.agg #[.int .i64 0, .string ⟨#[]⟩, .int .i64 0, .bool false, .int .u64 0, .int .u64 0, .int .u64 0, .int .u64 0, .int .i64 0, .bool false, .string ⟨#[]⟩, .int .i64 0, .int .i64 0]) ∧ i.size = 13 ∧ i.bytes = 120 := by
 have h : (Tryd.prog.info? 37).map (fun i => (i.zero, i.size, i.bytes)) = some (some (.agg #[.int .i64 0, .string ⟨#[]⟩, .int .i64 0, .bool false, .int .u64 0, .int .u64 0, .int .u64 0, .int .u64 0, .int .i64 0, .bool false, .string ⟨#[]⟩, .int .i64 0, .int .i64 0]), 13, 120) := by kernel_rfl
 cases hi : Tryd.prog.info? 37 with
 | none => rw [hi] at h; cases h
 | some i =>
  rw [hi] at h
  simp at h
  exact ⟨i, rfl, h.1, h.2.1, h.2.2⟩
theorem app37 (w : World) (ty : TypeId) (N : Nat) (v : Value) (n : Nat) (xs : List Value) (hown : w.ownsRow N 37 13 v n xs) (k m c : Nat) (news : List Value) (hl : news.length = m * 13) (hA : At w k news) (h1 : ∀ u ∈ news, u.oneCell' = true) (hm : 0 < m) (hn : n + m ≤ 700000000000) (hN : N ≤ w.heap.size) :
  ∃ v' w', (Builtin.append_ #[22, 22] ty #[v, .slice (some ⟨k, 0, none⟩) m c]).run Tryd.prog w = .ok v' w' ∧ w'.ownsRow N 37 13 v' (n + m) (xs ++ news) ∧ AppW v w w' ∧ (v'.ownBlock = v.ownBlock ∨ v'.ownBlock = some w.heap.size) := by
 obtain ⟨i, hi, hz, hs, hby⟩ := inf37
 have hnews : ∀ j u, news[j]? = some u → w.cell? ((⟨k, 0, none⟩ : Addr).add j) = some u := fun j u hu => by
  rw [Addr.add_mid]; have := hA.1 j u hu; simpa using this
 obtain ⟨v', w', hr, h2, h3, _, h5⟩ := run_append_own_at (P := Tryd.prog) w N 22 ty 37 i _ 13 120 Tryd.underlying22 hi hz hs hby rfl (by decide) v n xs hown ⟨k, 0, none⟩ m c news hl hnews h1 (by unfold maxLen; omega) (by omega) hN
 refine ⟨v', w', hr, h2, ⟨h3.os, h3.tape, h3.output, h3.size, fun j hj hne => h3.block j hj (fun e => hne e.symm), ?_⟩, h5⟩
 rcases hown.2 with ⟨rfl, rfl⟩ | ⟨g, cap, cur, rfl, hbg, hg, hnc, hcm, hcs, htake⟩
 ·have hr2 := run_append_nil (P := Tryd.prog) w 22 ty 37 i _ Tryd.underlying22 hi hz ⟨k, 0, none⟩ m c news (by rw [hs]; exact hl) hnews hm (by omega) (by first | omega | (rw [hby]; omega) | (rw [hby]; exact growslice_fits (n := 0) (by omega) (by omega)))
  rw [hr2] at hr
  cases hr
  exact ((Mo.refl w).drew.alloc _ _).2
 ·by_cases hroom : n + m ≤ cap
  ·have hr2 := run_append_room (P := Tryd.prog) w 22 ty 37 i Tryd.underlying22 hi g n cap cur hg ⟨k, 0, none⟩ m c news (by rw [hs]; exact hl) hnews h1 hroom (by rw [hs]; first | omega | (rw [hl]; omega) | (simp [hl]; omega))
   rw [hr2] at hr
   cases hr
   intro a
   by_cases e : a.block = g
   ·have h9 := setRow_heap w g cur (cur.toList.take (n * i.size) ++ news ++ cur.toList.drop (n * i.size + news.length)).toArray 37 (0, 0) hg
    simp only [World.frozen?, e, h9, hg]
   ·exact World.frozen?_of_block (setRow_other w g a.block _ e)
  ·have hr2 := run_append_grow (P := Tryd.prog) w 22 ty 37 i _ Tryd.underlying22 hi hz ⟨g, 0, none⟩ n cap xs (by rw [hs]; exact hown.1) (hown.cells (g := g) rfl) ⟨k, 0, none⟩ m c news (by rw [hs]; exact hl) hnews (by omega) (by omega) (by rw [hby]; exact growslice_fits (by omega) (by omega))
   rw [hr2] at hr
   cases hr
   exact ((Mo.refl w).drew.alloc _ _).2
namespace V
theorem own_mw37 {w w' : World} {N : Nat} {v : Value} {n : Nat} {xs : List Value} (h : w.ownsRow N 37 13 v n xs) (m : Mw w w') : w'.ownsRow N 37 13 v n xs :=
 h.kept (row := none) ⟨m.os, m.tape, m.output, m.size, fun k hk _ => m.block k hk⟩ (by cases e : v.ownBlock <;> simp)
section
variable {o : Oper} {n : Nat} {l : List (Nat × Value)} {w : World} {ops : Array Oper} {rest : List Oper} {Q : Exit → Act → World → Prop}
theorem wl_app37 (s x : Operand) (N : Nat) (v : Value) (q : Nat) (xs : List Value) (k m c : Nat) (news : List Value) (ho : o.op = .call { callee := .builtin .append, args := #[s, x], argTypes := #[22, 22] }) (hs : evl n l s = v) (hx : evl n l x = .slice (some ⟨k, 0, none⟩) m c)
  (hown : w.ownsRow N 37 13 v q xs) (hl : news.length = m * 13) (hA : At w k news) (h1 : ∀ u ∈ news, u.oneCell' = true) (hm : 0 < m) (hn : q + m ≤ 700000000000) (hN : N ≤ w.heap.size) (hg : wnt n l ops o = true)
  (hk : ∀ v' w', w'.ownsRow N 37 13 v' (q + m) (xs ++ news) → AppW v w w' → (v'.ownBlock = v.ownBlock ∨ v'.ownBlock = some w.heap.size) → WL Tryd.prog ops Q rest n (ext l o.dst v') w') : WL Tryd.prog ops Q (o :: rest) n l w := by
 obtain ⟨v', w', hr, h2, h3, h4⟩ := app37 w o.type N v q xs hown k m c news hl hA h1 hm hn hN
 refine ⟨l_step hg (o_val v' (w' := w') ?_ (hk v' w' h2 h3 h4).out)⟩
 unfold execOp
 simp only [ho, resolve, invoke, builtin, Sem.run_bind, Sem.run_pure, Result.andThen_ok, List.map_toArray, List.map_cons, List.map_nil, hs, hx, hr]
end
end V
end Go.Proofs.YthgknegocfhdbaaDoor
/-
 lex.Scan, out of what Next answers place by place.
-/
namespace Go.Proofs.YthgknegocfhdbaaDoor.V
open Go.RowKit
theorem blk_rg (s : ByteArray) : ∀ (d k : Nat), s.size - k ≤ d → k ≤ s.size → k ≤ blk s k ∧ blk s k ≤ s.size := by
 intro d
 induction d with
 | zero => intro k hd hk; rw [blk_end (by omega)]; omega
 | succ d ih =>
  intro k hd hk
  by_cases h : k < s.size
  ·cases h2 : isb (bt s k) with
   | true => rw [blk_b h h2]; have := ih (k + 1) (by omega) (by omega); omega
   | false =>
    cases h3 : ((bt s k == 47) && (bt s (k + 1) == 47)) with
    | true =>
     rw [blk_c h h2 h3]
     have h4 := lnx_ge' s (k + 1)
     have h5 := lnx_le' (s := s) (k := k + 1) (by omega)
     have := ih (lnx s (k + 1)) (by omega) h5
     omega
    | false => rw [blk_n h2 h3]; omega
  ·rw [blk_end h]; omega
structure St2 (k : Nat) (w w' : World) : Prop extends St k w w' where
 os : w'.os = w.os
 tape : w'.tape = w.tape
 output : w'.output = w.output
 block : ∀ j, j ≠ k → w'.heap[j]? = w.heap[j]?
theorem St2.mk2 (w : World) (k o : Nat) (l : List Value) : St2 k w (w.setCells k o l) :=
 { St.mk' w k o l with
  os := (heap_setCells k (k + 1) (by omega) l o w).2.1
  tape := (heap_setCells k (k + 1) (by omega) l o w).2.2.1
  output := (heap_setCells k (k + 1) (by omega) l o w).2.2.2
  block := fun j hj => (heap_setCells k j hj l o w).1 }
theorem own_st {w w' : World} {N k : Nat} {v : Value} {n : Nat} {xs : List Value} (m : St2 k w w') (h : w.ownsRow N 37 13 v n xs) (hne : v.ownBlock ≠ some k) : w'.ownsRow N 37 13 v n xs :=
 h.kept (row := some k) ⟨m.os, m.tape, m.output, Nat.le_of_eq m.size.symm, fun j _ hj => m.block j (fun e => hj (by rw [e]))⟩ (Or.inr hne)
theorem own_mo {w w' : World} {N : Nat} {v : Value} {n : Nat} {xs : List Value} (h : w.ownsRow N 37 13 v n xs) (m : Mw w w') : w'.ownsRow N 37 13 v n xs := own_mw37 h m
section
variable {P : Program} {o : Oper} {n : Nat} {l : List (Nat × Value)} {w : World} {ops : Array Oper} {rest : List Oper} {Q : Exit → Act → World → Prop}
theorem wl_stx (ty : TypeId) (x y : Operand) (k off : Nat) (us : Array Value) (vs vs' : List Value) (hA : At w k vs) (ho : o.op = .store ty x y) (hd : o.dst = none) (hx : evl n l x = pt k off) (hy : evl n l y = .agg us)
  (hl : Nat.ble (off + us.size) vs.length = true) (hi : (P.info? ty).map (·.size) = some us.size) (h1 : us.toList.all (·.oneCell') = true) (hvs : vs' = vs.take off ++ us.toList ++ vs.drop (off + us.toList.length)) (hg : wnt n l ops o = true)
  (hk : ∀ w', St2 k w w' → At w' k vs' → WL P ops Q rest n l w') : WL P ops Q (o :: rest) n l w :=
 ⟨l_step hg (o_store ty x y _ _ ho hd hx hy (run_put hA ty off us (Nat.le_of_ble_eq_true hl) hi (by rw [← Array.all_toList]; exact h1)) (hk _ (St2.mk2 w k off us.toList) (hA.set off us.toList (by have := Nat.le_of_ble_eq_true hl; simpa using this) vs' hvs)).out)⟩
theorem w_ret3 {fn : Func} {R : Ending → World → Prop} (x y z : Tmp) (v u t : Value) (hf : fn.results = #[.tmp x, .tmp y, .tmp z]) (h : resv n l P w v (.tmp x)) (g : resv n l P w u (.tmp y)) (k : resv n l P w t (.tmp z)) (hR : R (.returned (.tuple #[v, u, t])) w) : WX (bodyPost P fn R) .ret n l w := by
 refine ⟨bodyPost_ret (v := .tuple #[v, u, t]) ?_ rfl hR⟩
 have h1 := resv_tmp h
 have g1 := resv_tmp g
 have k1 := resv_tmp k
 simp [results, hf, h1, g1, k1]
end
inductive Sc (s : ByteArray) : Nat → List (List Value) → Nat → Int → Prop
 | done {k : Nat} (h : ¬ k < s.size) : Sc s k [] 0 0
 | err {k : Nat} (h : k < s.size) (hn : ∀ w, Calls Tryd.prog 12 #[.string s, .int .i64 ((k : Nat) : Int)] w fun e' w' => e' = .returned (.tuple #[.agg #[.int .i64 0, .string ⟨#[]⟩, .int .i64 0, .bool false, .int .u64 0, .int .u64 0, .int .u64 0, .int .u64 0, .int .i64 0, .bool false, .string ⟨#[]⟩, .int .i64 0, .int .i64 0], .int .i64 70]) ∧ Mw w w') : Sc s k [] k 70
 | tok {k e K : Nat} {v0 v1 v2 v3 v4 v5 v6 v7 v8 v9 : Value} {L : List (List Value)} {p : Nat} {E : Int} (h : k < s.size) (hke : k < e) (hes : e ≤ s.size) (hoc : ([.int .i64 ((K : Nat) : Int), .string (s.extract k e), v0, v1, v2, v3, v4, v5, v6, v7, v8, v9, .int .i64 ((k : Nat) : Int)] : List Value).all (·.oneCell') = true)
   (hn : ∀ w, Calls Tryd.prog 12 #[.string s, .int .i64 ((k : Nat) : Int)] w fun e' w' => e' = .returned (.tuple #[.agg #[.int .i64 ((K : Nat) : Int), .string (s.extract k e), v0, v1, v2, v3, v4, v5, v6, v7, v8, v9, .int .i64 ((k : Nat) : Int)], .int .i64 0]) ∧ Mw w w') (hr : Sc s (blk s e) L p E) : Sc s k ([.int .i64 ((K : Nat) : Int), .string (s.extract k e), v0, v1, v2, v3, v4, v5, v6, v7, v8, v9, .int .i64 ((k : Nat) : Int)] :: L) p E
theorem AppW.mw {v : Value} {a b c : World} (h : AppW v b c) (hM : Mw a b) (hn : ∀ k, v.ownBlock = some k → a.heap.size ≤ k) : Mw a c :=
 ⟨h.os.trans hM.os, h.tape.trans hM.tape, h.output.trans hM.output, Nat.le_trans hM.size h.size, fun k hk => (h.block k (Nat.lt_of_lt_of_le hk hM.size) (fun e => by have := hn k e; omega)).trans (hM.block k hk)⟩
theorem bs22 (c0 c1 c2 c3 c4 c5 c6 c7 c8 c9 c10 c11 c12 : Value) (w : World) : (Instr.buildSlice 22 1 #[(0, .agg #[c0, c1, c2, c3, c4, c5, c6, c7, c8, c9, c10, c11, c12])]).run Tryd.prog w = .ok (.slice (some ⟨w.heap.size, 0, none⟩) 1 1) (w.alloc (.cells #[c0, c1, c2, c3, c4, c5, c6, c7, c8, c9, c10, c11, c12] 37)) := by kernel_rfl
section
variable {o : Oper} {n : Nat} {l : List (Nat × Value)} {w : World} {ops : Array Oper} {rest : List Oper} {Q : Exit → Act → World → Prop}
theorem wl_bs22 (x : Operand) (c0 c1 c2 c3 c4 c5 c6 c7 c8 c9 c10 c11 c12 : Value) (ho : o.op = .buildSlice 22 1 #[(0, x)]) (hx : evl n l x = .agg #[c0, c1, c2, c3, c4, c5, c6, c7, c8, c9, c10, c11, c12]) (hg : wnt n l ops o = true)
  (hk : ∀ k w', w.heap.size = k → w'.heap.size = k + 1 → Mw w w' → At w' k [c0, c1, c2, c3, c4, c5, c6, c7, c8, c9, c10, c11, c12] → WL Tryd.prog ops Q rest n (ext l o.dst (.slice (some ⟨k, 0, none⟩) 1 1)) w') : WL Tryd.prog ops Q (o :: rest) n l w :=
 ⟨l_step hg (o_val (.slice (some ⟨w.heap.size, 0, none⟩) 1 1) (w' := w.alloc (.cells #[c0, c1, c2, c3, c4, c5, c6, c7, c8, c9, c10, c11, c12] 37)) (by
  have h := bs22 c0 c1 c2 c3 c4 c5 c6 c7 c8 c9 c10 c11 c12 w
  simp [execOp, ho, hx, h]) (hk _ _ rfl (by simp) ((Mw.refl _).alloc _ _) (At.new w #[c0, c1, c2, c3, c4, c5, c6, c7, c8, c9, c10, c11, c12] 37)).out)⟩
end
theorem len_e {t : ByteArray} {m : Nat} (ht : t.size = m) (ρ : Operand → Value) (x : Operand) (hx : ρ x = .string t) (dst : Option Tmp) (type : TypeId) (pos : String) (after : Array Edge) (guard : Option (Nat × Bool)) (w : World) : (execOp ρ { dst, op := .call { callee := .builtin .len, args := #[x], argTypes := #[9] }, type, pos, after, guard }).run Tryd.prog w = .ok (.value (.int .i64 (m : Int))) w := by
 subst ht; exact len_z _ _ _ hx _ _ _ _ _ _
theorem scan_n (s : ByteArray) (L : List (List Value)) (p : Nat) (E : Int) (w : World) (hS0 : Sc s (blk s 0) L p E) (hlong : decide (16384 < s.size) = false) : Calls Tryd.prog 8 #[.string s] w fun e' w' => ∃ v, e' = .returned (.tuple #[v, .int .i64 ((p : Nat) : Int), .int .i64 E]) ∧ (E = 0 → w'.ownsRow w.heap.size 37 13 v L.length L.flatten) ∧ (E ≠ 0 → v = .slice none 0 0) ∧ Mw w w' := by
 have hlp := of_decide_eq_false hlong
 refine w_enter 40 Tryd.func8 Tryd.ntmps8 rfl rfl ?_
 have M : Mw w w := Mw.refl _
 refine w_seq (w_reg ?_)
 refine wl_m (.const (.slice none 0 0)) (.slice none 0 0) ?_
 refine wl_m (.const (.int .i64 (0))) (.int .i64 (0)) ?_
 refine wl_m (.const (.int .i64 (0))) (.int .i64 (0)) ?_
 refine w_nil (xn_then (w_seq (w_seq (w_reg ?_))))
 refine wl_m (.tmp 0) (.string s) ?_
 refine wl_val (.int .i64 ((s.size : Nat) : Int)) (len_s _ _ s (by exact rfl) _ _ _ _ _ _) rfl ?_
 refine wl_b .gtr 3 (.tmp 10) (.const (.int .i64 (16384))) (.int .i64 ((s.size : Nat) : Int)) (.int .i64 (16384)) (.bool false) (gtN hlong _ _ _) ?_
 refine w_nil (xn_then (w_condF rfl (w_skip (xn_then (w_seq (w_reg ?_))))))
 refine wl_m (.const (.slice none 0 0)) (.slice none 0 0) ?_
 refine w_nil (xn_then (w_seq (w_seq (w_reg ?_))))
 refine wl_m (.tmp 0) (.string s) ?_
 refine wl_call 14 [(.tmp 12), (.const (.int .i64 (0)))] _ [.string s, .int .i64 (0)] (.int .i64 ((blk s 0 : Nat) : Int)) rfl rfl (fun _ _ => by kernel_rfl) (wk (blank_n s 0 _ (by unfold maxLen; omega) (by omega))) rfl ?_
 intro w1 hq
 replace M := M.trans hq
 clear hq
 refine wl_m (.tmp 13) (.int .i64 ((blk s 0 : Nat) : Int)) ?_
 refine w_nil (xn_then (w_block ?_))
 refine w_loop (fun m l w1 => ∃ (k : Nat) (D R : List (List Value)) (v : Value), m = s.size + 1 - k ∧ look l 0 = .string s ∧ look l 5 = v ∧ look l 6 = .int .i64 ((k : Nat) : Int) ∧ k ≤ s.size ∧ D.length ≤ k ∧ w1.ownsRow w.heap.size 37 13 v D.length D.flatten ∧ Sc s k R p E ∧ (E = 0 → L = D ++ R) ∧ Mw w w1) _ ⟨blk s 0, [], L, .slice none 0 0, rfl, rfl, rfl, rfl, (blk_rg s _ 0 (Nat.le_refl _) (by omega)).2, Nat.zero_le _, ⟨rfl, .inl ⟨rfl, rfl⟩⟩, hS0, fun _ => rfl, M⟩ ?_
 clear M
 rintro m l wl ⟨k, D, R, v, rfl, e0, e5, e6, hk, hDk, hown, hSc, hLD, M⟩
 cases hSc with
 | done h =>
  have hkd := decide_eq_false h
  refine w_seq (w_seq (w_reg ?_))
  refine wl_mv (.tmp 6) (.int .i64 ((k : Nat) : Int)) (fun _ => rfl) e6 rfl ?_
  refine wl_mv (.tmp 0) (.string s) (fun _ => rfl) e0 rfl ?_
  refine wl_val (.int .i64 ((s.size : Nat) : Int)) (len_s _ _ s (by exact rfl) _ _ _ _ _ _) rfl ?_
  refine wl_b .lss 3 (.tmp 14) (.tmp 16) (.int .i64 ((k : Nat) : Int)) (.int .i64 ((s.size : Nat) : Int)) (.bool false) (ltN hkd _ _ _) ?_
  refine w_nil (xn_then (w_condF rfl (w_exit (xx_then (xx_then (xx_blk (xn_then (w_seq (w_reg ?_)))))))))
  refine wl_mv (.tmp 5) (v) (fun _ => rfl) e5 rfl ?_
  refine wl_m (.tmp 39) (v) ?_
  refine wl_m (.const (.int .i64 (0))) (.int .i64 (0)) ?_
  refine wl_m (.const (.int .i64 (0))) (.int .i64 (0)) ?_
  refine w_nil (xn_then (w_ret ?_))
  exact w_ret3 _ _ _ (v) (.int .i64 (0)) (.int .i64 (0)) rfl rfl rfl rfl ⟨v, rfl, fun _ => by rw [hLD rfl, List.append_nil]; exact hown, fun h => absurd rfl h, M⟩
 | err h hn =>
  have hkd := decide_eq_true h
  refine w_seq (w_seq (w_reg ?_))
  refine wl_mv (.tmp 6) (.int .i64 ((p : Nat) : Int)) (fun _ => rfl) e6 rfl ?_
  refine wl_mv (.tmp 0) (.string s) (fun _ => rfl) e0 rfl ?_
  refine wl_val (.int .i64 ((s.size : Nat) : Int)) (len_s _ _ s (by exact rfl) _ _ _ _ _ _) rfl ?_
  refine wl_b .lss 3 (.tmp 14) (.tmp 16) (.int .i64 ((p : Nat) : Int)) (.int .i64 ((s.size : Nat) : Int)) (.bool true) (ltN hkd _ _ _) ?_
  refine w_nil (xn_then (w_condT rfl (w_skip (xn_then (w_block (w_seq (w_reg ?_)))))))
  refine wl_mv (.tmp 0) (.string s) (fun _ => rfl) e0 rfl ?_
  refine wl_mv (.tmp 6) (.int .i64 ((p : Nat) : Int)) (fun _ => rfl) e6 rfl ?_
  refine wl_call 12 [(.tmp 19), (.tmp 20)] _ [.string s, .int .i64 ((p : Nat) : Int)] (.tuple #[.agg #[.int .i64 0, .string ⟨#[]⟩, .int .i64 0, .bool false, .int .u64 0, .int .u64 0, .int .u64 0, .int .u64 0, .int .i64 0, .bool false, .string ⟨#[]⟩, .int .i64 0, .int .i64 0], .int .i64 (70)]) rfl rfl (fun _ _ => by kernel_rfl) (hn _) rfl ?_
  intro w11 hq
  replace hown := own_mo hown hq
  replace M := M.trans hq
  clear hq
  refine wl_m (.tmp 21) (.tuple #[.agg #[.int .i64 0, .string ⟨#[]⟩, .int .i64 0, .bool false, .int .u64 0, .int .u64 0, .int .u64 0, .int .u64 0, .int .i64 0, .bool false, .string ⟨#[]⟩, .int .i64 0, .int .i64 0], .int .i64 (70)]) ?_
  refine wl_un (fun v => Instr.extract v 0) (.tmp 18) (.tuple #[.agg #[.int .i64 0, .string ⟨#[]⟩, .int .i64 0, .bool false, .int .u64 0, .int .u64 0, .int .u64 0, .int .u64 0, .int .i64 0, .bool false, .string ⟨#[]⟩, .int .i64 0, .int .i64 0], .int .i64 (70)]) (.agg #[.int .i64 0, .string ⟨#[]⟩, .int .i64 0, .bool false, .int .u64 0, .int .u64 0, .int .u64 0, .int .u64 0, .int .i64 0, .bool false, .string ⟨#[]⟩, .int .i64 0, .int .i64 0]) (fun _ => rfl) rfl (by kernel_rfl) rfl ?_
  refine wl_un (fun v => Instr.extract v 1) (.tmp 18) (.tuple #[.agg #[.int .i64 0, .string ⟨#[]⟩, .int .i64 0, .bool false, .int .u64 0, .int .u64 0, .int .u64 0, .int .u64 0, .int .i64 0, .bool false, .string ⟨#[]⟩, .int .i64 0, .int .i64 0], .int .i64 (70)]) (.int .i64 (70)) (fun _ => rfl) rfl (by kernel_rfl) rfl ?_
  refine wl_alloc 37 #[.int .i64 0, .string ⟨#[]⟩, .int .i64 0, .bool false, .int .u64 0, .int .u64 0, .int .u64 0, .int .u64 0, .int .i64 0, .bool false, .string ⟨#[]⟩, .int .i64 0, .int .i64 0] rfl (fun _ => by kernel_rfl) rfl ?_
  intro k1 w12 hk hz hq Q1
  have on_k1 : v.ownBlock ≠ some k1 := fun e => by have := (hown.lt _ e).2; omega
  have N_k1 : w.heap.size ≤ k1 := by have := M.size; omega
  replace hown := own_mo hown hq
  replace M := M.trans hq
  clear hk hz hq
  refine wl_stx 37 (.tmp 7) (.tmp 22) k1 0 #[.int .i64 0, .string ⟨#[]⟩, .int .i64 0, .bool false, .int .u64 0, .int .u64 0, .int .u64 0, .int .u64 0, .int .i64 0, .bool false, .string ⟨#[]⟩, .int .i64 0, .int .i64 0] _ [.int .i64 0, .string ⟨#[]⟩, .int .i64 0, .bool false, .int .u64 0, .int .u64 0, .int .u64 0, .int .u64 0, .int .i64 0, .bool false, .string ⟨#[]⟩, .int .i64 0, .int .i64 0] Q1 rfl rfl rfl rfl rfl sz37 rfl rfl rfl ?_
  intro w13 hS Qn
  replace Q1 := Qn
  clear Qn
  replace hown := own_st hS hown on_k1
  replace M := hS.mo _ N_k1 M
  clear hS
  refine wl_m (.tmp 23) (.int .i64 (70)) ?_
  refine w_nil (xn_then (w_seq (w_seq (w_reg ?_))))
  refine wl_m (.tmp 8) (.int .i64 (70)) ?_
  refine wl_b .neq 23 (.tmp 24) (.const (.int .i64 (0))) (.int .i64 (70)) (.int .i64 (0)) (.bool true) (by kernel_rfl) ?_
  refine w_nil (xn_then (w_condT rfl (w_seq (w_reg ?_))))
  refine wl_mv (.tmp 6) (.int .i64 ((p : Nat) : Int)) (fun _ => rfl) e6 rfl ?_
  refine wl_m (.tmp 8) (.int .i64 (70)) ?_
  refine wl_m (.const (.slice none 0 0)) (.slice none 0 0) ?_
  refine wl_m (.tmp 26) (.int .i64 ((p : Nat) : Int)) ?_
  refine wl_m (.tmp 27) (.int .i64 (70)) ?_
  refine w_nil (xn_then (w_ret (xr_then (xr_blk (xr_then (xr_blk (xr_then ?_)))))))
  exact w_ret3 _ _ _ (.slice none 0 0) (.int .i64 ((p : Nat) : Int)) (.int .i64 (70)) rfl rfl rfl rfl ⟨_, rfl, (fun h => by cases h), fun _ => rfl, M⟩
 | @tok _ e K v0 v1 v2 v3 v4 v5 v6 v7 v8 v9 R9 _ _ h hke hes hoc hn hr =>
  have hkd := decide_eq_true h
  have hsz : (s.extract k e).size = e - k := by rw [ByteArray.size_extract, Nat.min_eq_left hes]
  refine w_seq (w_seq (w_reg ?_))
  refine wl_mv (.tmp 6) (.int .i64 ((k : Nat) : Int)) (fun _ => rfl) e6 rfl ?_
  refine wl_mv (.tmp 0) (.string s) (fun _ => rfl) e0 rfl ?_
  refine wl_val (.int .i64 ((s.size : Nat) : Int)) (len_s _ _ s (by exact rfl) _ _ _ _ _ _) rfl ?_
  refine wl_b .lss 3 (.tmp 14) (.tmp 16) (.int .i64 ((k : Nat) : Int)) (.int .i64 ((s.size : Nat) : Int)) (.bool true) (ltN hkd _ _ _) ?_
  refine w_nil (xn_then (w_condT rfl (w_skip (xn_then (w_block (w_seq (w_reg ?_)))))))
  refine wl_mv (.tmp 0) (.string s) (fun _ => rfl) e0 rfl ?_
  refine wl_mv (.tmp 6) (.int .i64 ((k : Nat) : Int)) (fun _ => rfl) e6 rfl ?_
  refine wl_call 12 [(.tmp 19), (.tmp 20)] _ [.string s, .int .i64 ((k : Nat) : Int)] (.tuple #[.agg #[.int .i64 ((K : Nat) : Int), .string (s.extract k e), v0, v1, v2, v3, v4, v5, v6, v7, v8, v9, .int .i64 ((k : Nat) : Int)], .int .i64 (0)]) rfl rfl (fun _ _ => by kernel_rfl) (hn _) rfl ?_
  intro w11 hq
  replace hown := own_mo hown hq
  replace M := M.trans hq
  clear hq
  refine wl_m (.tmp 21) (.tuple #[.agg #[.int .i64 ((K : Nat) : Int), .string (s.extract k e), v0, v1, v2, v3, v4, v5, v6, v7, v8, v9, .int .i64 ((k : Nat) : Int)], .int .i64 (0)]) ?_
  refine wl_un (fun v => Instr.extract v 0) (.tmp 18) (.tuple #[.agg #[.int .i64 ((K : Nat) : Int), .string (s.extract k e), v0, v1, v2, v3, v4, v5, v6, v7, v8, v9, .int .i64 ((k : Nat) : Int)], .int .i64 (0)]) (.agg #[.int .i64 ((K : Nat) : Int), .string (s.extract k e), v0, v1, v2, v3, v4, v5, v6, v7, v8, v9, .int .i64 ((k : Nat) : Int)]) (fun _ => rfl) rfl (by kernel_rfl) rfl ?_
  refine wl_un (fun v => Instr.extract v 1) (.tmp 18) (.tuple #[.agg #[.int .i64 ((K : Nat) : Int), .string (s.extract k e), v0, v1, v2, v3, v4, v5, v6, v7, v8, v9, .int .i64 ((k : Nat) : Int)], .int .i64 (0)]) (.int .i64 (0)) (fun _ => rfl) rfl (by kernel_rfl) rfl ?_
  refine wl_alloc 37 #[.int .i64 0, .string ⟨#[]⟩, .int .i64 0, .bool false, .int .u64 0, .int .u64 0, .int .u64 0, .int .u64 0, .int .i64 0, .bool false, .string ⟨#[]⟩, .int .i64 0, .int .i64 0] rfl (fun _ => by kernel_rfl) rfl ?_
  intro k1 w12 hk hz hq Q1
  have on_k1 : v.ownBlock ≠ some k1 := fun e => by have := (hown.lt _ e).2; omega
  have N_k1 : w.heap.size ≤ k1 := by have := M.size; omega
  replace hown := own_mo hown hq
  replace M := M.trans hq
  clear hk hz hq
  refine wl_stx 37 (.tmp 7) (.tmp 22) k1 0 #[.int .i64 ((K : Nat) : Int), .string (s.extract k e), v0, v1, v2, v3, v4, v5, v6, v7, v8, v9, .int .i64 ((k : Nat) : Int)] _ [.int .i64 ((K : Nat) : Int), .string (s.extract k e), v0, v1, v2, v3, v4, v5, v6, v7, v8, v9, .int .i64 ((k : Nat) : Int)] Q1 rfl rfl rfl rfl rfl sz37 hoc rfl rfl ?_
  intro w13 hS Qn
  replace Q1 := Qn
  clear Qn
  replace hown := own_st hS hown on_k1
  replace M := hS.mo _ N_k1 M
  clear hS
  refine wl_m (.tmp 23) (.int .i64 (0)) ?_
  refine w_nil (xn_then (w_seq (w_seq (w_reg ?_))))
  refine wl_m (.tmp 8) (.int .i64 (0)) ?_
  refine wl_b .neq 23 (.tmp 24) (.const (.int .i64 (0))) (.int .i64 (0)) (.int .i64 (0)) (.bool false) (by kernel_rfl) ?_
  refine w_nil (xn_then (w_condF rfl (w_skip (xn_then (w_seq (w_reg ?_))))))
  refine wl_mv (.tmp 5) (v) (fun _ => rfl) e5 rfl ?_
  refine wl_l 37 (.tmp 7) (pt k1 0) (.agg #[.int .i64 ((K : Nat) : Int), .string (s.extract k e), v0, v1, v2, v3, v4, v5, v6, v7, v8, v9, .int .i64 ((k : Nat) : Int)]) (run_row Q1 37 0 13 _ rfl Tryd.underlying37 rfl sz37) ?_
  refine wl_bs22 (.tmp 29) (.int .i64 ((K : Nat) : Int)) (.string (s.extract k e)) (v0) (v1) (v2) (v3) (v4) (v5) (v6) (v7) (v8) (v9) (.int .i64 ((k : Nat) : Int)) rfl rfl rfl ?_
  intro kn w14 hkn hzn hq QN
  replace hown := own_mo hown hq
  replace Q1 := Q1.mo hq
  replace M := M.trans hq
  clear hq
  refine wl_app37 (.tmp 28) (.tmp 30) w.heap.size v D.length D.flatten kn 1 1 [.int .i64 ((K : Nat) : Int), .string (s.extract k e), v0, v1, v2, v3, v4, v5, v6, v7, v8, v9, .int .i64 ((k : Nat) : Int)] rfl rfl rfl hown rfl QN (fun u hu => by have := List.all_eq_true.1 hoc u hu; exact this) (by decide) (by omega) (by have := M.size; omega) rfl ?_
  intro va9 w15 hO9 hA9 hb9
  replace Q1 : At w15 k1 [.int .i64 ((K : Nat) : Int), .string (s.extract k e), v0, v1, v2, v3, v4, v5, v6, v7, v8, v9, .int .i64 ((k : Nat) : Int)] := AppW.at hA9 Q1 on_k1
  replace M := AppW.mw hA9 M (fun j e => (hown.lt j e).1)
  replace hown := hO9
  refine wl_m (.tmp 31) (va9) ?_
  refine w_nil (xn_then (w_reg ?_))
  refine wl_mv (.tmp 0) (.string s) (fun _ => rfl) e0 rfl ?_
  refine wl_mv (.tmp 6) (.int .i64 ((k : Nat) : Int)) (fun _ => rfl) e6 rfl ?_
  refine wl_f 37 1 (.tmp 7) (pt k1 0) (pt k1 1) ?_
  refine wl_l 9 (.tmp 34) (pt k1 1) (.string (s.extract k e)) (run_one Q1 9 1 rfl Tryd.underlying9 rfl) ?_
  refine wl_val (.int .i64 ((e - k : Nat) : Int)) (len_e hsz _ _ (by exact rfl) _ _ _ _ _ _) rfl ?_
  refine wl_b .add 3 (.tmp 33) (.tmp 36) (.int .i64 ((k : Nat) : Int)) (.int .i64 ((e - k : Nat) : Int)) (.int .i64 ((e : Nat) : Int)) (addk (by omega) (by omega) _ _ _) ?_
  refine wl_call 14 [(.tmp 32), (.tmp 37)] _ [.string s, .int .i64 ((e : Nat) : Int)] (.int .i64 ((blk s e : Nat) : Int)) rfl rfl (fun _ _ => by kernel_rfl) (wk (blank_n s e _ (by unfold maxLen; omega) (by omega))) rfl ?_
  intro w16 hq
  replace hown := own_mo hown hq
  replace Q1 := Q1.mo hq
  replace M := M.trans hq
  clear hq
  refine wl_m (.tmp 38) (.int .i64 ((blk s e : Nat) : Int)) ?_
  refine w_nil (xn_blk ?_)
  exact xn_loop (s.size + 1 - blk s e) (by have := blk_rg s _ e (Nat.le_refl _) hes; omega) ⟨blk s e, D ++ [_], R9, va9, rfl, e0, rfl, rfl, (blk_rg s _ e (Nat.le_refl _) hes).2, by have := blk_rg s _ e (Nat.le_refl _) hes; rw [List.length_append]; simp only [List.length_singleton]; omega, by rw [List.length_append, List.flatten_append]; simpa using hown, hr, fun hE => by rw [hLD hE, List.append_assoc]; rfl, M⟩
end Go.Proofs.YthgknegocfhdbaaDoor.V
